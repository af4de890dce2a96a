/- policy.Check: rules, and a policy. -/
import Derived.Test.YtklibmijiecbfaaGreatK4
import Derived.Deep.RegionHeld3
import Derived.Deep.RegionWith
import Derived.Test.YtklibmijiecbfaaGreatK2
import Derived.Laws.Slices
import Derived.Laws.ResultCell
import Derived.Laws.CopyOwn
import Derived.Lib.QuietBelow
import Derived.Lib.SplitLaws
import Derived.Lib.IndexBytes
import Derived.Deep.AppendLies
import Derived.Lib.SmallJoins
import Derived.Deep.RegionLaw
namespace Go.Proofs.YtklibmijiecbfaaGreat
open Go.RowKit Go.Sort

theorem one_box (w : World) (x : Array Value) (tx : TypeId) : ∃ V, V = w.alloc (.cells x tx) ∧ Below w.heap.size w V ∧ w.heap.size < V.heap.size ∧ (∀ j : Nat, V.cell? ⟨w.heap.size, j, none⟩ = x[j]?) :=
  ⟨_, rfl, box_below w _, by rw [World.size_alloc]; omega, fun j => World.cell?_alloc_new w x tx j⟩

theorem keep_cell {X Y : World} {b o : Nat} {v : Value} (hb : Below X.heap.size X Y) (h : X.cell? ⟨b, o, none⟩ = some v) : Y.cell? ⟨b, o, none⟩ = some v := ((bcell hb).1 b o (block_lt_of_cell h)).trans h

theorem forget_any {R : World → Prop} {W0 : World} (F : World → Prop) (h : F W0) (H : ∀ W, F W → R W) : R W0 := H _ h
/-- The world with the kinds laid at kb. -/
structure KX (V : World) (k kb : Nat) (X : World) : Prop where
  below : Below V.heap.size V X
  kinds : ∀ j, j < 4 → X.cell? ⟨kb, j, none⟩ = some (.int .i64 (kindAt k j : Nat))
theorem take_next {α : Type} {cs : List α} {i : Nat} (h : i < cs.length) : ∃ c, cs[i]? = some c ∧ cs.take (i + 1) = cs.take i ++ [c] :=
  ⟨cs[i], List.getElem?_eq_getElem h, by rw [List.take_add_one, List.getElem?_eq_getElem h]; rfl⟩
theorem firstF_append : ∀ a b : List Nat, firstF (a ++ b) = if firstF a = 0 then firstF b else firstF a
  | [], b => by simp [firstF]
  | x :: r, b => by
    rw [List.cons_append, firstF, firstF]
    by_cases h : x = 0
    · rw [if_pos h, if_pos h, firstF_append r b]
    · rw [if_neg h, if_neg h, if_neg h]
theorem firstF_one (x : Nat) : firstF [x] = x := by
  by_cases h : x = 0
  · simp [firstF, h]
  · simp [firstF]
    omega
theorem four {j : Nat} (h : j < 4) : j = 0 ∨ j = 1 ∨ j = 2 ∨ j = 3 := by omega
theorem KX.made {V w1 : World} {k : Nat} (hb : Below V.heap.size V w1) : KX V k w1.heap.size (w1.alloc (.cells #[.int .i64 (kindAt k 0 : Nat), .int .i64 (kindAt k 1 : Nat), .int .i64 (kindAt k 2 : Nat), .int .i64 (kindAt k 3 : Nat)] 126)) :=
  ⟨hb.alloc hb.size _, fun j hj => by
    rw [World.cell?_alloc_new]
    rcases four hj with rfl | rfl | rfl | rfl <;> rfl⟩
theorem sc {X : World} {b j : Nat} {v : Value} (h : X.cell? ⟨b, j, none⟩ = some v) (i : Nat) (u : Value) : (X.setCell ⟨b, i, none⟩ u).cell? ⟨b, j, none⟩ = some (if i = j then u else v) := by
  by_cases e : i = j
  · subst e
    rw [if_pos rfl]
    exact World.cell?_setCell_same _ _ _ h
  · rw [if_neg e, World.cell?_setCell_other _ _ _ _ (by simp_all)]
    exact h
theorem drewA {V w1 : World} (hb : Below V.drew.heap.size V.drew w1) : Below V.heap.size V w1 := ⟨hb.os, hb.tape, hb.output, hb.size, hb.block⟩
theorem drewB {V w1 : World} {o : Obj} (hb : Below (V.alloc o).drew.heap.size (V.alloc o).drew w1) : Below V.heap.size V w1 := below_next (box_below V o) (drewA hb)
theorem KX.set {V w1 : World} {k : Nat} (hb : Below V.heap.size V w1) (h : ∀ j, j < 4 → w1.cell? ⟨V.heap.size, j, none⟩ = some (.int .i64 0)) : KX V k V.heap.size ((((w1.setCell ⟨V.heap.size, 0, none⟩ (.int .i64 (kindAt k 0 : Nat))).setCell ⟨V.heap.size, 1, none⟩ (.int .i64 (kindAt k 1 : Nat))).setCell ⟨V.heap.size, 2, none⟩ (.int .i64 (kindAt k 2 : Nat))).setCell ⟨V.heap.size, 3, none⟩ (.int .i64 (kindAt k 3 : Nat))) := by
  refine ⟨?_, fun j hj => ?_⟩
  · exact (((hb.setCell (p := ⟨V.heap.size, 0, none⟩) (Nat.le_refl _) _).setCell (p := ⟨V.heap.size, 1, none⟩) (Nat.le_refl _) _).setCell (p := ⟨V.heap.size, 2, none⟩) (Nat.le_refl _) _).setCell (p := ⟨V.heap.size, 3, none⟩) (Nat.le_refl _) _
  · rw [sc (sc (sc (sc (h j hj) 0 _) 1 _) 2 _) 3 _]
    rcases four hj with rfl | rfl | rfl | rfl <;> rfl

set_option maxHeartbeats 4000000 in
theorem checkRule_any (r : RL) (oa : Option Addr) (cap : Nat) (w : World) (hc : IsConds oa r.conds w) (hr : RlOk r) (hcap : r.conds.length ≤ cap ∧ cap ≤ maxLen) :
    Calls Tryz.prog 43 #[ruleV r oa cap] w fun e w' => e = .returned (errV (ruleF r)) ∧ Below w.heap.size w w' := by
  obtain ⟨nr, cs, ⟨ak, ae⟩⟩ := r
  unfold ruleV
  simp only at hc hcap ⊢
  obtain ⟨n, hn⟩ : ∃ n, n = cs.length := ⟨_, rfl⟩
  rw [← hn] at hcap ⊢
  have hmax : n ≤ 9223372036854775807 := by have := hcap.2; unfold maxLen at this; omega
  by_cases h0 : nr < 0 ∨ 8 < nr
  · rw [show ruleF ⟨nr, cs, ⟨ak, ae⟩⟩ = 1 from if_pos h0]
    go_enter Tryz.func43, Tryz.ntmps43
    go_wp2
    all_goals first
      | omega
      | (go_ret
         exact ⟨rfl, box_below _ _⟩)
  have hf0 : ruleF ⟨nr, cs, ⟨ak, ae⟩⟩ = if 4 < cs.length then 2 else if firstF (cs.map (condF nr.toNat)) = 0 then actF ⟨ak, ae⟩ else firstF (cs.map (condF nr.toNat)) := if_neg h0
  obtain ⟨k, rfl⟩ : ∃ k : Nat, nr = k := ⟨nr.toNat, by omega⟩
  have hk8 : k ≤ 8 := by omega
  rw [Int.toNat_natCast, ← hn] at hf0
  have i1 : ¬ (k : Int) < 0 := by omega
  have i2 : ¬ (9 : Int) ≤ k := by omega
  by_cases h4 : 4 < n
  · have HF := hide (hf0.trans (if_pos h4))
    clear hf0 hn
    go_enter Tryz.func43, Tryz.ntmps43
    go_wp2
    go_ret
    exact ⟨by rw [HF.out]; rfl, box_below _ _⟩
  rw [if_neg h4] at hf0
  have HF := hide hf0
  have HN := hide hn
  have HC := hide (show 0 < n → ∃ b off, oa = some ⟨b, off, none⟩ ∧ b < w.heap.size ∧ Hid (∀ i c, cs[i]? = some c → CondAt w b (off + i * 9) c) from fun h => by
    obtain ⟨b, off, q1, q2, q3⟩ := hc.lie (by omega)
    exact ⟨b, off, q1, q2, hide q3⟩)
  have HL := hide (show ∀ i, i < n → ∃ c, cs[i]? = some c ∧ cs.take (i + 1) = cs.take i ++ [c] from fun i h => take_next (by omega))
  clear hc hr
  have i3 : ¬ (4 : Int) < n := by omega
  have fx := forms_index k hk8
  have fk := form_kinds k
  unfold kindsV at fk
  have HFO := forms_any
  obtain ⟨FA, hFA⟩ : ∃ a, a = formsArr := ⟨_, rfl⟩
  rw [← hFA] at fx HFO
  obtain ⟨FV, hFV⟩ : ∃ a, a = formV k := ⟨_, rfl⟩
  rw [← hFV] at fx fk
  clear hFA hFV hf0 hn h0 hcap
  go_enter Tryz.func43, Tryz.ntmps43
  go_wp2
  obtain ⟨V, hV, hB, hsz, hx⟩ := one_box w #[.int .i64 k, .slice oa n cap, .int .i64 ak, .int .i64 ae] 41
  rw [← hV]
  clear hV
  have c0 := hx 0
  obtain ⟨Z, hZ⟩ : ∃ Z : Obj, Z = .cells #[.int .i64 0, .int .i64 0, .int .i64 0, .int .i64 0] 126 := ⟨_, rfl⟩
  have z0 : ∀ j : Nat, j < 4 → (V.alloc Z).cell? ⟨V.heap.size, j, none⟩ = some (.int .i64 0) := fun j hj => by
    rw [hZ, World.cell?_alloc_new]
    rcases (by omega : j = 0 ∨ j = 1 ∨ j = 2 ∨ j = 3) with rfl | rfl | rfl | rfl <;> rfl
  have z1 : ∀ j : Nat, (V.alloc Z).frozen? ⟨V.heap.size, j, none⟩ = false := fun j => by rw [hZ]; exact World.frozen?_alloc_new _ _ _ _
  rw [hZ] at z0 z1
  clear hZ
  go_region_with (first
    | (go_at_call 75; refine (HFO V.drew).mono ?_; rintro e w1 ⟨rfl, hb1⟩; have c1 := keep_cell (o := 0) (v := .int .i64 k) (b := w.heap.size) hb1 c0; have l1 : w.heap.size < w1.heap.size := block_lt_of_cell c1; have HK := hide (KX.made (k := k) (drewA hb1)))
    | (go_at_call 75; refine (HFO (V.alloc _).drew).mono ?_; rintro e w1 ⟨rfl, hb1⟩; have c1 := keep_cell (o := 0) (v := .int .i64 k) (b := w.heap.size) hb1 (keep_cell (box_below V _) c0 : (V.alloc _).cell? _ = _); have l1 : w.heap.size < w1.heap.size := block_lt_of_cell c1; have d0 := keep_cell hb1 (z0 0 (by omega)); have d1 := keep_cell hb1 (z0 1 (by omega)); have d2 := keep_cell hb1 (z0 2 (by omega)); have d3 := keep_cell hb1 (z0 3 (by omega)); have f0 := ((bcell hb1).2 V.heap.size 0 (block_lt_of_cell (z0 0 (by omega)))).trans (z1 0); have f1 := ((bcell hb1).2 V.heap.size 1 (block_lt_of_cell (z0 0 (by omega)))).trans (z1 1); have f2 := ((bcell hb1).2 V.heap.size 2 (block_lt_of_cell (z0 0 (by omega)))).trans (z1 2); have f3 := ((bcell hb1).2 V.heap.size 3 (block_lt_of_cell (z0 0 (by omega)))).trans (z1 3); have HK := hide (KX.set (k := k) (drewB hb1) (fun j hj => keep_cell hb1 (z0 j hj)))))
  all_goals
    refine forget_any (KX V k _) HK.out ?_
    clear HK
    intro X hX
    have k0 := keep_cell hX.below (hx 0)
    have k1 := keep_cell hX.below (hx 1)
    have k2 := keep_cell hX.below (hx 2)
    have k3 := keep_cell hX.below (hx 3)
    go_wp2
    go_loopw [28] (fun I w' => ∃ i : Nat, i ≤ n ∧ I = .int .i64 i ∧ Hid (Below X.heap.size X w') ∧ Hid (firstF ((cs.take i).map (condF k)) = 0)) (fun I _ => n - (intOf I).toNat)
    case atStart => exact ⟨0, by omega, rfl, hide (Below.refl _ _), hide rfl⟩
    case round =>
      obtain ⟨i, hi, rfl, HB, HG⟩ := hrel
      by_cases hlt : i < n
      · obtain ⟨c, hcs, hcat⟩ := HL.out i hlt
        obtain ⟨b, off, rfl, hbw, HA⟩ := HC.out (by omega)
        have hA := (HA.out i c hcs).on fun j => (bcell (below_next (below_next (below_next hB hX.below) HB.out) (Below.refl _ _))).1 b j hbw
        have hok := hA.ok
        obtain ⟨f, hf⟩ : ∃ f, f = condF k c := ⟨_, rfl⟩
        have HQ := hide (show firstF ((cs.take (i + 1)).map (condF k)) = f by rw [hcat, List.map_append, firstF_append, if_pos HG.out, hf]; exact firstF_one _)
        have HCC := fun w => checkCond_any k c hok w
        rw [← hf] at HCC
        clear hf hok hcs hcat
        have g1 := cell_regrown (keep_cell HB.out k1)
        have e0 := cell_regrown (keep_cell HB.out (hX.kinds 0 (by omega)))
        have e1 := cell_regrown (keep_cell HB.out (hX.kinds 1 (by omega)))
        have e2 := cell_regrown (keep_cell HB.out (hX.kinds 2 (by omega)))
        have e3 := cell_regrown (keep_cell HB.out (hX.kinds 3 (by omega)))
        obtain ⟨a0, a1, a2, a3, a4, a5, a6, a7, a8, _⟩ := hA
        replace a0 := cell_regrown a0
        replace a1 := cell_regrown a1
        replace a2 := cell_regrown a2
        replace a3 := cell_regrown a3
        replace a4 := cell_regrown a4
        replace a5 := cell_regrown a5
        replace a6 := cell_regrown a6
        replace a7 := cell_regrown a7
        replace a8 := cell_regrown a8
        obtain ⟨arg, op, v, m, gl, ⟨ip, bb, lo, hh⟩⟩ := c
        unfold condV kindsV at HCC
        simp only at a0 a1 a2 a3 a4 a5 a6 a7 a8 HCC
        obtain ⟨ev, hev⟩ : ∃ e, e = errV f := ⟨_, rfl⟩
        rw [← hev] at HCC
        have cC : ∀ d os, Calls Tryz.prog 76 #[.agg #[.int .i64 arg, .int .i64 op, .int .u64 v, .int .u64 m, .string gl, .int .u32 ip, .int .i64 bb, .int .i64 lo, .int .i64 hh], .agg #[.int .i64 (kindAt k 0 : Nat), .int .i64 (kindAt k 1 : Nat), .int .i64 (kindAt k 2 : Nat), .int .i64 (kindAt k 3 : Nat)]] (grow (redrawn wr d) os) fun e w'' => e = .returned ev ∧ ∃ p : Regrown, w'' = grow (redrawn wr p.d) p.os := fun d os => Calls.regrown_of (HCC _)
        clear HCC
        have i5 : (0 : Int) ≤ i := by omega
        have i6 : (i : Int) < n := by omega
        go_wp2
        refine wp_region_quiet_below (by kernel_rfl) (by kernel_rfl) ?_
        repeat (go_big_quiet_step (first | (go_at_call 76; exact cC _ _)))
        refine wpQuiet_nil ?_
        intro _ hw'
        obtain ⟨⟨dq, osq⟩, hw''⟩ := hw'
        subst hw''
        clear a0 a1 a2 a3 a4 a5 a6 a7 a8 g1 e0 e1 e2 e3 cC
        by_cases hz : f = 0
        · subst hz
          obtain rfl : ev = .nilIface := hev
          go_wp2
          go_round
          case rel => exact ⟨i + 1, by omega, by go_num, hide (below_next HB.out (below_regrown wr dq osq)), HQ⟩
          case measure => simp [intOf]; omega
        · rw [errV_pos hz] at hev
          subst hev
          have HE := hide (show ruleF ⟨k, cs, ⟨ak, ae⟩⟩ = f by
            have h1 : firstF (cs.map (condF k)) = f := by
              rw [← List.take_append_drop (i + 1) cs, List.map_append, firstF_append, if_neg (by rw [HQ.out]; exact hz), HQ.out]
            rw [HF.out, h1, if_neg hz])
          go_wp2
          go_ret
          exact ⟨by rw [HE.out, errV_pos hz]; rfl, below_next (below_next (below_next hB hX.below) HB.out) (below_regrown wr dq osq)⟩
      · obtain rfl : i = n := by omega
        have q2 := keep_cell HB.out k2
        have q3 := keep_cell HB.out k3
        have HE := hide (show ruleF ⟨k, cs, ⟨ak, ae⟩⟩ = actF ⟨ak, ae⟩ by
          have h1 : firstF (cs.map (condF k)) = 0 := by
            have := HG.out
            rwa [List.take_of_length_le (by rw [HN.out]; exact Nat.le_refl _)] at this
          rw [HF.out, if_pos h1])
        go_wp2_with (go_at_call 42; refine (checkAction_any ⟨ak, ae⟩ _).mono ?_; rintro e w2 ⟨rfl, hb2⟩)
        go_ret
        exact ⟨by rw [HE.out]; rfl, below_next (below_next (below_next hB hX.below) HB.out) hb2⟩
end Go.Proofs.YtklibmijiecbfaaGreat

/- policy.Check: a policy. -/
namespace Go.Proofs.YtklibmijiecbfaaGreat
open Go.RowKit Go.Sort

/-- What is kept of a policy's rules, for a walk. -/
theorem pol_parts {oa : Option Addr} {cap : Nat} {p : POL} {w : World} (h : IsPol oa cap p w) (n : Nat) (hn : n = p.rules.length) : 0 < n → ∃ b off, oa = some ⟨b, off, none⟩ ∧ b < w.heap.size ∧ Hid (∀ i r, p.rules[i]? = some r → ∃ ca ccap, RuleAt w b (off + i * 4) r ca ccap) := fun h0 => by
  obtain ⟨b, off, q1, q2, q3⟩ := h.rules.lie (by omega)
  exact ⟨b, off, q1, q2, hide q3⟩

set_option maxHeartbeats 4000000 in
theorem pcheck_any (p : POL) (oa : Option Addr) (cap : Nat) (w : World) (h : IsPol oa cap p w) :
    Calls Tryz.prog 19 #[polV p oa cap] w fun e w' => e = .returned (errV (polF p)) ∧ Below w.heap.size w w' := by
  obtain ⟨n, hn⟩ : ∃ n, n = p.rules.length := ⟨_, rfl⟩
  have HC := hide (pol_parts h n hn)
  have hmax : n ≤ 9223372036854775807 := by have h1 := h.le; have h2 := h.cap; unfold maxLen at h2; omega
  clear h
  obtain ⟨rs, ⟨ak, ae⟩⟩ := p
  unfold polV
  simp only at HC hn ⊢
  rw [← hn]
  have hf0 : polF ⟨rs, ⟨ak, ae⟩⟩ = if 12 < n then 2 else if actF ⟨ak, ae⟩ = 0 then firstF (rs.map ruleF) else actF ⟨ak, ae⟩ := by rw [hn]; rfl
  by_cases h4 : 12 < n
  · have HF := hide (hf0.trans (if_pos h4))
    clear hf0 hn
    go_enter Tryz.func19, Tryz.ntmps19
    go_wp2
    go_ret
    exact ⟨by rw [HF.out]; rfl, box_below _ _⟩
  rw [if_neg h4] at hf0
  have HA := checkAction_any ⟨ak, ae⟩
  obtain ⟨f0, hf⟩ : ∃ f, f = actF ⟨ak, ae⟩ := ⟨_, rfl⟩
  rw [← hf] at HA hf0
  have HF := hide hf0
  have HN := hide hn
  have HL := hide (show ∀ i, i < n → ∃ c, rs[i]? = some c ∧ rs.take (i + 1) = rs.take i ++ [c] from fun i h => take_next (by omega))
  clear hf0 hn hf
  unfold actV at HA
  simp only at HA
  by_cases hz0 : f0 = 0
  · subst hz0
    rw [if_pos rfl] at HF
    rw [errV_zero] at HA
    go_enter Tryz.func19, Tryz.ntmps19
    obtain ⟨V, hV, hB, hsz, hx⟩ := one_box w #[.slice oa n cap, .int .i64 ak, .int .i64 ae] 26
    go_wp2_with (go_at_call 42; rw [← hV]; clear hV; refine (HA _).mono ?_; rintro e X ⟨rfl, hX⟩; have k0 := keep_cell hX (hx 0); have k1 := keep_cell hX (hx 1); have k2 := keep_cell hX (hx 2))
    go_loopw [20] (fun I w' => ∃ i : Nat, i ≤ n ∧ I = .int .i64 i ∧ Hid (Below X.heap.size X w') ∧ Hid (firstF ((rs.take i).map ruleF) = 0)) (fun I _ => n - (intOf I).toNat)
    case atStart => exact ⟨0, by omega, rfl, hide (Below.refl _ _), hide rfl⟩
    case round =>
      obtain ⟨i, hi, rfl, HB, HG⟩ := hrel
      have HW := hide (below_next (below_next hB hX) HB.out)
      by_cases hlt : i < n
      · obtain ⟨c, hcs, hcat⟩ := HL.out i hlt
        obtain ⟨b, off, rfl, hbw, HA2⟩ := HC.out (by omega)
        obtain ⟨ca, cc, hR0⟩ := HA2.out i c hcs
        have hR := hR0.on hbw HW.out
        clear hR0
        obtain ⟨f, hf⟩ : ∃ f, f = ruleF c := ⟨_, rfl⟩
        have HQ := hide (show firstF ((rs.take (i + 1)).map ruleF) = f by rw [hcat, List.map_append, firstF_append, if_pos HG.out, hf]; exact firstF_one _)
        have HCC := checkRule_any c ca cc wr hR.conds hR.ok ⟨hR.le, hR.cap⟩
        rw [← hf] at HCC
        obtain ⟨a0, a1, a2, a3, _, _, _, _⟩ := hR
        clear hf hcs hcat
        have g0 := keep_cell HB.out k0
        obtain ⟨nr, cs, ⟨rk, re⟩⟩ := c
        unfold ruleV at HCC
        simp only at a0 a1 a2 a3 HCC
        by_cases hz : f = 0
        · subst hz
          rw [errV_zero] at HCC
          go_wp2_with (go_at_call 43; refine HCC.mono ?_; rintro e w1 ⟨rfl, hb1⟩)
          go_round
          case rel => exact ⟨i + 1, by omega, by go_num, hide (below_next HB.out hb1), HQ⟩
          case measure => simp [intOf]; omega
        · rw [errV_pos hz] at HCC
          have HE := hide (show polF ⟨rs, ⟨ak, ae⟩⟩ = f by
            have h1 : firstF (rs.map ruleF) = f := by
              rw [← List.take_append_drop (i + 1) rs, List.map_append, firstF_append, if_neg (by rw [HQ.out]; exact hz), HQ.out]
            rw [HF.out, h1])
          go_wp2_with (go_at_call 43; refine HCC.mono ?_; rintro e w1 ⟨rfl, hb1⟩)
          go_ret
          exact ⟨by rw [HE.out, errV_pos hz]; rfl, below_next HW.out hb1⟩
      · obtain rfl : i = n := by omega
        have HE := hide (show polF ⟨rs, ⟨ak, ae⟩⟩ = 0 by
          have := HG.out
          rw [List.take_of_length_le (by rw [HN.out]; exact Nat.le_refl _)] at this
          rw [HF.out, this])
        go_wp2
        go_ret
        exact ⟨by rw [HE.out]; rfl, HW.out⟩
  · rw [if_neg hz0] at HF
    rw [errV_pos hz0] at HA
    go_enter Tryz.func19, Tryz.ntmps19
    go_wp2_with (go_at_call 42; refine (HA _).mono ?_; rintro e X ⟨rfl, hX⟩)
    go_ret
    exact ⟨by rw [HF.out, errV_pos hz0]; rfl, below_next (box_below _ _) hX⟩
end Go.Proofs.YtklibmijiecbfaaGreat

/- What the library's variables hold. -/
namespace Go.Proofs.YtklibmijiecbfaaGreat
open Go.RowKit Go.Sort

/-- A text, as Go has it. -/
def bs (l : W8) : ByteArray := ⟨l.toArray⟩
theorem bs_size (l : W8) : (bs l).size = l.length := by unfold bs; simp [ByteArray.size]
theorem bs_append (a b : W8) : bs a ++ bs b = bs (a ++ b) := by
  apply ByteArray.ext
  simp [bs, ByteArray.data_append]
theorem bs_data (l : W8) : (bs l).data.toList = l := by unfold bs; simp
theorem bs_of (g : ByteArray) : bs g.data.toList = g := by unfold bs; simp

end Go.Proofs.YtklibmijiecbfaaGreat

/- A byte of an address. -/
namespace Go.Proofs.YtklibmijiecbfaaGreat
open Go.RowKit

/-- A byte of an address, the highest at 0. -/
def ipB (ip i : Nat) : Nat := ip / 2 ^ (24 - 8 * i) % 256

theorem ipByte_any (ip i : Nat) (_hip : ip < 4294967296) (hi : i ≤ 3) (w : World) : Calls Tryz.prog 126 #[.int .u32 ip, .int .i64 i] w fun e w' => e = .returned (.int .u8 (ipB ip i)) ∧ w' = w := by
  go_enter Tryz.func126, Tryz.ntmps126
  go_wp2
  go_ret
  refine ⟨?_, rfl⟩
  refine ret_int ?_
  unfold ipB
  simp
theorem ipB_lt (ip i : Nat) : ipB ip i < 256 := Nat.mod_lt _ (by decide)
end Go.Proofs.YtklibmijiecbfaaGreat

/- addr.number: digits read. -/
namespace Go.Proofs.YtklibmijiecbfaaGreat
open Go.RowKit

end Go.Proofs.YtklibmijiecbfaaGreat

/- addr.split: the numbers of a net's text. -/
namespace Go.Proofs.YtklibmijiecbfaaGreat
open Go.RowKit

end Go.Proofs.YtklibmijiecbfaaGreat

/- addr.Parse. -/
namespace Go.Proofs.YtklibmijiecbfaaGreat
open Go.RowKit

end Go.Proofs.YtklibmijiecbfaaGreat

/- addr.numbers. -/
namespace Go.Proofs.YtklibmijiecbfaaGreat
open Go.RowKit

end Go.Proofs.YtklibmijiecbfaaGreat

/- addr.Text. -/
namespace Go.Proofs.YtklibmijiecbfaaGreat
open Go.RowKit Go.Sort

end Go.Proofs.YtklibmijiecbfaaGreat

/- policy.Text: a cond. -/
namespace Go.Proofs.YtklibmijiecbfaaGreat
open Go.RowKit Go.Sort

end Go.Proofs.YtklibmijiecbfaaGreat

/- policy.Text: rules, and a policy. -/
namespace Go.Proofs.YtklibmijiecbfaaGreat
open Go.RowKit Go.Sort

end Go.Proofs.YtklibmijiecbfaaGreat

/- policy.Text: the walks over rules, and over a policy. -/
namespace Go.Proofs.YtklibmijiecbfaaGreat
open Go.RowKit Go.Sort

theorem conds_parts {oa : Option Addr} {cs : List CD} {w : World} (hc : IsConds oa cs w) (n : Nat) (hn : n = cs.length) : 0 < n → ∃ b off, oa = some ⟨b, off, none⟩ ∧ b < w.heap.size ∧ Hid (∀ i c, cs[i]? = some c → CondAt w b (off + i * 9) c) := fun h => by
  obtain ⟨b, off, q1, q2, q3⟩ := hc.lie (by omega)
  exact ⟨b, off, q1, q2, hide q3⟩
end Go.Proofs.YtklibmijiecbfaaGreat

/- Words of a line, taken off one by one. -/
namespace Go.Proofs.YtklibmijiecbfaaGreat
open Go.RowKit Go.Sort

/-- All blocks but g are as they were; new ones may lie behind. -/
structure But (g : Nat) (w w' : World) : Prop where
  os : w'.os = w.os
  tape : w'.tape = w.tape
  output : w'.output = w.output
  size : w.heap.size ≤ w'.heap.size
  block : ∀ k, k < w.heap.size → k ≠ g → w'.heap[k]? = w.heap[k]?
theorem But.below {B g : Nat} {a w w' : World} (h : Below B a w) (hg : B ≤ g) (hB : B ≤ w.heap.size) (k : But g w w') : Below B a w' :=
  h.trans ⟨k.os, k.tape, k.output, k.size, fun i hi => k.block i (by omega) (by omega)⟩
theorem But.set (g o : Nat) (w : World) (v : Value) : But g w (w.setCell ⟨g, o, none⟩ v) := ⟨rfl, rfl, rfl, by simp [World.setCell], fun k _ hn => Below.heap_setCell _ _ _ _ hn⟩
theorem cell_heap {w w' : World} {b : Nat} (h : w'.heap[b]? = w.heap[b]?) (o : Nat) : w'.cell? ⟨b, o, none⟩ = w.cell? ⟨b, o, none⟩ := by
  unfold World.cell?
  simp only [h]
/-! Numbers. -/
end Go.Proofs.YtklibmijiecbfaaGreat

/- Names and signs found; a text cloned. -/
namespace Go.Proofs.YtklibmijiecbfaaGreat
open Go.RowKit Go.Sort

end Go.Proofs.YtklibmijiecbfaaGreat

/- readAction. -/
namespace Go.Proofs.YtklibmijiecbfaaGreat
open Go.RowKit Go.Sort

theorem row_heap (X : World) (r k : Nat) (cs : Array Value) (h : k ≠ r) : (X.setRow r cs).heap[k]? = X.heap[k]? := setRow_other _ _ _ _ h
theorem row_size (X : World) (r : Nat) (cs : Array Value) : (X.setRow r cs).heap.size = X.heap.size := by simp [World.setRow]
theorem size_action : (Tryz.prog.info? 24).map (·.size) = some 2 := by kernel_rfl

theorem one2 (a b : Int) : (#[.int .i64 a, .int .i64 b] : Array Value).all (·.oneCell') = true := by simp [Value.oneCell']
end Go.Proofs.YtklibmijiecbfaaGreat

/- readCond. -/
namespace Go.Proofs.YtklibmijiecbfaaGreat
open Go.RowKit Go.Sort

def condC (c : CD) : Array Value := #[.int .i64 c.arg, .int .i64 c.op, .int .u64 c.v, .int .u64 c.m, .string c.glob, .int .u32 c.net.ip, .int .i64 c.net.bits, .int .i64 c.net.lo, .int .i64 c.net.hi]
def zeroCD : CD := ⟨0, 0, 0, 0, ⟨#[]⟩, noNet⟩
theorem size_cond : (Tryz.prog.info? 47).map (·.size) = some 9 := by kernel_rfl
end Go.Proofs.YtklibmijiecbfaaGreat

/- strings.Split at one byte. -/
namespace Go.Proofs.YtklibmijiecbfaaGreat
open Go.RowKit Go.Sort

end Go.Proofs.YtklibmijiecbfaaGreat

/- readRule. -/
namespace Go.Proofs.YtklibmijiecbfaaGreat
open Go.RowKit Go.Sort

/-- The cells of conds. -/
def flatC (cs : List CD) : List Value := cs.flatMap fun c => (condC c).toList
theorem flatC_len : ∀ cs : List CD, (flatC cs).length = cs.length * 9
  | [] => rfl
  | c :: r => by
    have := flatC_len r
    simp only [flatC, List.flatMap_cons, List.length_append, List.length_cons] at this ⊢
    rw [this, show (condC c).toList.length = 9 from rfl]
    omega
theorem flatC_get : ∀ (cs : List CD) (i : Nat) (c : CD) (j : Nat), cs[i]? = some c → j < 9 → (flatC cs)[i * 9 + j]? = (condC c).toList[j]?
  | [], i, c, j, h, _ => by simp at h
  | x :: r, 0, c, j, h, hj => by
    simp only [List.getElem?_cons_zero, Option.some.injEq] at h
    subst h
    simp only [flatC, List.flatMap_cons]
    rw [List.getElem?_append_left (by rw [show (condC x).toList.length = 9 from rfl]; omega)]
    congr 1
    omega
  | x :: r, i + 1, c, j, h, hj => by
    rw [List.getElem?_cons_succ] at h
    have ih := flatC_get r i c j h hj
    simp only [flatC, List.flatMap_cons] at ih ⊢
    rw [List.getElem?_append_right (by rw [show (condC x).toList.length = 9 from rfl]; omega), show (condC x).toList.length = 9 from rfl, show (i + 1) * 9 + j - 9 = i * 9 + j by omega]
    exact ih
theorem info_cond : ∃ i, Tryz.prog.info? 47 = some i ∧ i.zero = some (.agg (condC zeroCD)) ∧ i.size = 9 ∧ i.bytes = 80 := by
  have hz : (Tryz.prog.info? 47).map (·.zero) = some (some (.agg (condC zeroCD))) := by kernel_rfl
  have hs : (Tryz.prog.info? 47).map (·.size) = some 9 := by kernel_rfl
  have hb : (Tryz.prog.info? 47).map (·.bytes) = some 80 := by kernel_rfl
  cases hq : Tryz.prog.info? 47 with
  | none => rw [hq] at hs; simp at hs
  | some i =>
    rw [hq] at hz hs hb
    simp at hz hs hb
    exact ⟨i, rfl, hz, hs, hb⟩
theorem size_rule : (Tryz.prog.info? 41).map (·.size) = some 4 := by kernel_rfl

def ruleC (nr : Int) (sv : Value) (a : ACT) : Array Value := #[.int .i64 nr, sv, .int .i64 a.kind, .int .i64 a.errno]
theorem But.grown {g : Nat} {w w' : World} (h : But g w w') : w.grownBy w' (some g) := ⟨h.os, h.tape, h.output, h.size, fun k hk hn => h.block k hk (fun e => hn (by rw [e]))⟩
end Go.Proofs.YtklibmijiecbfaaGreat

/- readRule: the walk. -/
namespace Go.Proofs.YtklibmijiecbfaaGreat
open Go.RowKit Go.Sort

end Go.Proofs.YtklibmijiecbfaaGreat

/- read: the laws. -/
namespace Go.Proofs.YtklibmijiecbfaaGreat
open Go.RowKit Go.Sort

/-- A rule that was read, and where its conds lie. -/
abbrev RE := RL × Option Addr × Nat
def ruleE (e : RE) : Array Value := ruleC e.1.nr (.slice e.2.1 e.1.conds.length e.2.2) e.1.act
def flatR (es : List RE) : List Value := es.flatMap fun e => (ruleE e).toList
theorem flatR_snoc (es : List RE) (e : RE) : flatR (es ++ [e]) = flatR es ++ (ruleE e).toList := by simp [flatR]
theorem flatR_get : ∀ (es : List RE) (i : Nat) (e : RE) (j : Nat), es[i]? = some e → j < 4 → (flatR es)[i * 4 + j]? = (ruleE e).toList[j]?
  | [], i, e, j, h, _ => by simp at h
  | x :: r, 0, e, j, h, hj => by
    simp only [List.getElem?_cons_zero, Option.some.injEq] at h
    subst h
    simp only [flatR, List.flatMap_cons]
    rw [List.getElem?_append_left (by rw [show (ruleE x).toList.length = 4 from rfl]; omega)]
    congr 1
    omega
  | x :: r, i + 1, e, j, h, hj => by
    rw [List.getElem?_cons_succ] at h
    have ih := flatR_get r i e j h hj
    simp only [flatR, List.flatMap_cons] at ih ⊢
    rw [List.getElem?_append_right (by rw [show (ruleE x).toList.length = 4 from rfl]; omega), show (ruleE x).toList.length = 4 from rfl, show (i + 1) * 4 + j - 4 = i * 4 + j by omega]
    exact ih
theorem IsConds.heap {oa : Option Addr} {cs : List CD} {W V : World} (h : IsConds oa cs W) (hb : ∀ b off, oa = some ⟨b, off, none⟩ → b < W.heap.size → V.heap[b]? = W.heap[b]?) (hs : W.heap.size ≤ V.heap.size) : IsConds oa cs V :=
  ⟨fun h0 => by
    obtain ⟨b, off, h1, h2, h3⟩ := h.lie h0
    exact ⟨b, off, h1, Nat.lt_of_lt_of_le h2 hs, fun i c hi => (h3 i c hi).on fun j => cell_heap (hb b off h1 h2) j⟩⟩
/-- The conds of the rules lie where nothing is written any more. -/
def CondsOk (r5 : Nat) (sv : Value) (es : List RE) (X : World) : Prop := ∀ e ∈ es, RlOk e.1 ∧ IsConds e.2.1 e.1.conds X ∧ e.1.conds.length ≤ e.2.2 ∧ e.2.2 ≤ maxLen ∧ ∀ b off, e.2.1 = some ⟨b, off, none⟩ → r5 < b ∧ sv.ownBlock ≠ some b ∧ b < X.heap.size
theorem rules_owned {W : World} {base r5 : Nat} {v : Value} {es : List RE} (h : W.ownsRow base 41 4 v es.length (flatR es)) (hc : CondsOk r5 v es W) : ∃ oa cap, v = .slice oa es.length cap ∧ es.length ≤ cap ∧ cap ≤ maxLen ∧ IsRules oa (es.map (·.1)) W := by
  have h' := h
  rcases h.2 with ⟨rfl, hn⟩ | ⟨g, cap, cur, rfl, hb, hg, h1, h2, h3, h4⟩
  · exact ⟨none, 0, by rw [hn], by omega, by unfold maxLen; omega, ⟨fun h0 => by rw [List.length_map] at h0; omega⟩⟩
  · refine ⟨_, cap, rfl, h1, h2, ⟨fun h0 => ⟨g, 0, rfl, (h'.lt g rfl).2, fun i r hr => ?_⟩⟩⟩
    rw [List.getElem?_map] at hr
    cases he : es[i]? with
    | none => rw [he] at hr; cases hr
    | some e =>
      rw [he] at hr
      simp only [Option.map_some, Option.some.injEq] at hr
      subst hr
      have hcell : ∀ j u, j < 4 → (ruleE e).toList[j]? = some u → W.cell? ⟨g, 0 + i * 4 + j, none⟩ = some u := fun j u hj hu => by
        have h5 := h'.cells (g := g) rfl (i * 4 + j) u (by rw [flatR_get es i e j he hj]; exact hu)
        rwa [show (⟨g, 0, none⟩ : Addr).add (i * 4 + j) = ⟨g, 0 + i * 4 + j, none⟩ by unfold Addr.add; split <;> simp_all] at h5
      obtain ⟨q1, q2, q3, q4, _⟩ := hc e (List.mem_of_getElem? he)
      exact ⟨e.2.1, e.2.2, hcell 0 _ (by omega) rfl, hcell 1 _ (by omega) rfl, hcell 2 _ (by omega) rfl, hcell 3 _ (by omega) rfl, q2, q3, q4, q1⟩
theorem info_rule : ∃ i, Tryz.prog.info? 41 = some i ∧ i.zero = some (.agg (ruleC 0 (.slice none 0 0) ⟨0, 0⟩)) ∧ i.size = 4 ∧ i.bytes = 48 := by
  have hz : (Tryz.prog.info? 41).map (·.zero) = some (some (.agg (ruleC 0 (.slice none 0 0) ⟨0, 0⟩))) := by kernel_rfl
  have hs : (Tryz.prog.info? 41).map (·.size) = some 4 := by kernel_rfl
  have hb : (Tryz.prog.info? 41).map (·.bytes) = some 48 := by kernel_rfl
  cases hq : Tryz.prog.info? 41 with
  | none => rw [hq] at hs; simp at hs
  | some i =>
    rw [hq] at hz hs hb
    simp at hz hs hb
    exact ⟨i, rfl, hz, hs, hb⟩
theorem size_pol : (Tryz.prog.info? 26).map (·.size) = some 3 := by kernel_rfl

def polC (sv : Value) (a : ACT) : Array Value := #[sv, .int .i64 a.kind, .int .i64 a.errno]
/-- One rule more. -/
theorem condsOk_more {r5 : Nat} {sv : Value} {es : List RE} {X0 X1 Y : World} {e : RE} {o : Obj} {gg n cap : Nat} (h : CondsOk r5 sv es X0) (hb : Below X0.heap.size X0 X1) (he : RlOk e.1 ∧ IsConds e.2.1 e.1.conds X1 ∧ e.1.conds.length ≤ e.2.2 ∧ e.2.2 ≤ maxLen ∧ ∀ b off, e.2.1 = some ⟨b, off, none⟩ → X0.heap.size ≤ b ∧ b < X1.heap.size) (h5 : r5 < X0.heap.size)
    (hown : ∀ k, sv.ownBlock = some k → k < X0.heap.size) (hgrow : (X1.alloc o).grownBy Y sv.ownBlock) (hat : sv.ownBlock = some gg ∨ gg = X1.heap.size + 1) (V : World) (hV : ∀ k, k ≠ r5 → V.heap[k]? = Y.heap[k]?) (hVs : Y.heap.size ≤ V.heap.size) :
    CondsOk r5 (.slice (some ⟨gg, 0, none⟩) n cap) (es ++ [e]) V := by
  have hs1 := hb.size
  have hsY : X1.heap.size ≤ Y.heap.size := Nat.le_trans (box_below X1 o).size hgrow.size
  have hgg : ∀ b, b < X1.heap.size → sv.ownBlock ≠ some b → (Value.slice (some ⟨gg, 0, none⟩) n cap).ownBlock ≠ some b := fun b hb1 hb2 hc => by
    simp only [Value.ownBlock, Option.some.injEq] at hc
    subst hc
    rcases hat with h | h
    · exact hb2 h
    · omega
  intro x hx
  rcases List.mem_append.1 hx with hx | hx
  · obtain ⟨q1, q2, q3, q4, q5⟩ := h x hx
    refine ⟨q1, q2.heap (fun b off e0 hlt0 => ?_) (by omega), q3, q4, fun b off e0 => ?_⟩
    · obtain ⟨p1, p2, _⟩ := q5 b off e0
      rw [hV b (by omega), hgrow.block b (by rw [World.size_alloc]; omega) (fun e1 => p2 e1.symm), (box_below X1 o).block b (by omega), hb.block b hlt0]
    · obtain ⟨p1, p2, p3⟩ := q5 b off e0
      exact ⟨p1, hgg b (by omega) p2, by omega⟩
  · rw [List.mem_singleton] at hx
    subst hx
    obtain ⟨q1, q2, q3, q4, q5⟩ := he
    refine ⟨q1, q2.heap (fun b off e0 hlt0 => ?_) (by omega), q3, q4, fun b off e0 => ?_⟩
    · have p1 := q5 b off e0
      rw [hV b (by omega), hgrow.block b (by rw [World.size_alloc]; omega) (fun e1 => by have := hown b e1.symm; omega), (box_below X1 o).block b hlt0]
    · have p1 := q5 b off e0
      exact ⟨by omega, hgg b p1.2 (fun e1 => by have := hown b e1; omega), by omega⟩
end Go.Proofs.YtklibmijiecbfaaGreat

/- read: the walk. -/
namespace Go.Proofs.YtklibmijiecbfaaGreat
open Go.RowKit Go.Sort

theorem own_on {W V : World} {base size n : Nat} {e : TypeId} {v : Value} {xs : List Value} (h : W.ownsRow base e size v n xs) (hb : Below W.heap.size W V) : V.ownsRow base e size v n xs :=
  h.kept (row := none) ⟨hb.os, hb.tape, hb.output, hb.size, fun k hk _ => hb.block k hk⟩ (by
    cases hv : v.ownBlock with
    | none => exact .inl rfl
    | some k => exact .inr (by simp))
theorem own_but {W V : World} {base size n r : Nat} {e : TypeId} {v : Value} {xs : List Value} (h : W.ownsRow base e size v n xs) (hb : But r W V) (hr : r < base) : V.ownsRow base e size v n xs :=
  h.kept hb.grown (by
    by_cases he : v.ownBlock = some r
    · have := (h.lt _ he).1
      omega
    · exact .inr he)
end Go.Proofs.YtklibmijiecbfaaGreat

/- policy.Parse. -/
namespace Go.Proofs.YtklibmijiecbfaaGreat
open Go.RowKit Go.Sort

end Go.Proofs.YtklibmijiecbfaaGreat

/- Calls and values; what a rule asks of them. -/
namespace Go.Proofs.YtklibmijiecbfaaGreat
open Go.RowKit Go.Sort

/-- A call. -/
structure KL where
  arch : Nat
  nr : Nat
  a0 : Nat
  a1 : Nat
  a2 : Nat
  a3 : Nat
structure KlOk (c : KL) : Prop where
  arch : c.arch < 4294967296
  nr : c.nr < 4294967296
  a0 : c.a0 < 18446744073709551616
  a1 : c.a1 < 18446744073709551616
  a2 : c.a2 < 18446744073709551616
  a3 : c.a3 < 18446744073709551616
def klC (c : KL) : Array Value := #[.int .u32 c.arch, .int .u32 c.nr, .int .u64 c.a0, .int .u64 c.a1, .int .u64 c.a2, .int .u64 c.a3]
def klV (c : KL) : Value := .agg (klC c)
def regN (c : KL) : Nat → Nat
  | 0 => c.a0
  | 1 => c.a1
  | 2 => c.a2
  | 3 => c.a3
  | _ => 0
theorem regN_lt {c : KL} (h : KlOk c) (i : Nat) : regN c i < 18446744073709551616 := by
  match i with
  | 0 => exact h.a0
  | 1 => exact h.a1
  | 2 => exact h.a2
  | 3 => exact h.a3
  | i + 4 => simp [regN]
theorem regN_at (c : KL) (i : Nat) (h : i ≤ 3) : (klC c)[2 + i]? = some (.int .u64 (regN c i : Nat)) := by
  rcases (by omega : i = 0 ∨ i = 1 ∨ i = 2 ∨ i = 3) with rfl | rfl | rfl | rfl <;> rfl
/-- Does a cond on a number hold? -/
def holdsN (c : CD) (x : Nat) : Bool :=
  if c.op = 1 then x == c.v else if c.op = 2 then x != c.v else if c.op = 3 then decide (x < c.v) else if c.op = 4 then decide (x ≤ c.v)
  else if c.op = 5 then decide (c.v < x) else if c.op = 6 then decide (c.v ≤ x) else (x &&& c.m) == c.v

set_option maxHeartbeats 2000000 in
theorem holds_any (c : CD) (hc : CdOk c) (x : Nat) (hx : x < 18446744073709551616) (w : World) : Calls Tryz.prog 108 #[condV c, .int .u64 x] w fun e w' => e = .returned (.bool (holdsN c x)) ∧ Below w.heap.size w w' := by
  obtain ⟨arg, op, v, m, g, ⟨ip, b, lo, hi⟩⟩ := c
  have hand : bits .and .u64 (x : Int) (m : Int) = ((x &&& m : Nat) : Int) := u64_and_nat x m hx hc.m
  clear hc
  obtain ⟨y, hy⟩ : ∃ y : Nat, y = x &&& m := ⟨_, rfl⟩
  rw [← hy] at hand
  have HY := hide hy
  clear hy
  unfold condV
  simp only
  go_enter Tryz.func108, Tryz.ntmps108
  go_wp2
  all_goals
    go_ret
    refine ⟨ret_bool ?_, box_below _ _⟩
  all_goals
    clear hand
    first
    | (simp_all [holdsN]; done)
    | (rw [Bool.eq_iff_iff]; simp_all [holdsN]; done)
    | (rw [Bool.eq_iff_iff]; simp_all [holdsN]; omega)
    | (have := HY.out; rw [Bool.eq_iff_iff]; simp_all [holdsN]; omega)
end Go.Proofs.YtklibmijiecbfaaGreat

/- fits, isDeep, leads. -/
namespace Go.Proofs.YtklibmijiecbfaaGreat
open Go.RowKit Go.Sort

def numB (c : CD) : Bool := kindOp c.op == 1
/-- Does a cond that is on a number hold, or is it on none? -/
def regB (k : KL) (c : CD) : Bool := !numB c || holdsN c (regN k c.arg.toNat)
def fitsB (r : RL) (k : KL) : Bool := decide ((k.nr : Int) = r.nr) && r.conds.all (regB k)
def deepB (r : RL) : Bool := r.conds.any fun c => !numB c

theorem all_take_snoc {α : Type} {f : α → Bool} {l : List α} {i : Nat} {c : α} (h : l.take (i + 1) = l.take i ++ [c]) (h0 : (l.take i).all f = true) : (l.take (i + 1)).all f = f c := by rw [h, List.all_append, h0]; simp
theorem all_take_false {α : Type} {f : α → Bool} {l : List α} {i : Nat} (h : (l.take i).all f = false) : l.all f = false := by
  rw [← List.take_append_drop i l, List.all_append, h, Bool.false_and]

set_option maxHeartbeats 4000000 in
theorem isDeep_any (r : RL) (hf : r.conds.length ≤ 4) (oa : Option Addr) (cap : Nat) (w : World) (hc : IsConds oa r.conds w) :
    Calls Tryz.prog 80 #[ruleV r oa cap] w fun e w' => e = .returned (.bool (deepB r)) ∧ Below w.heap.size w w' := by
  obtain ⟨n, hn⟩ : ∃ n, n = r.conds.length := ⟨_, rfl⟩
  have HC := hide (conds_parts hc n hn)
  have h4 : n ≤ 4 := by omega
  have HL := hide (show ∀ i, i < n → ∃ c, r.conds[i]? = some c ∧ r.conds.take (i + 1) = r.conds.take i ++ [c] from fun i h => take_next (by omega))
  have HD := hide (show deepB r = !(r.conds.all numB) by unfold deepB; rw [List.any_eq_not_all_not]; simp)
  obtain ⟨z, hz⟩ : ∃ z, z = deepB r := ⟨_, rfl⟩
  rw [← hz] at HD ⊢
  clear hc hf hz
  obtain ⟨nr, cs, ⟨ak, ae⟩⟩ := r
  unfold ruleV
  simp only at HC HL HD hn ⊢
  rw [← hn]
  have HN := hide hn
  clear hn
  go_enter Tryz.func80, Tryz.ntmps80
  go_wp2
  obtain ⟨V, hV, hB, hsz, hx⟩ := one_box w #[.int .i64 nr, .slice oa n cap, .int .i64 ak, .int .i64 ae] 41
  rw [← hV]
  clear hV
  have k1 := hx 1
  go_loopw [7] (fun I w' => ∃ i : Nat, i ≤ n ∧ I = .int .i64 i ∧ Hid ((cs.take i).all numB = true) ∧ w' = V) (fun I _ => n - (intOf I).toNat)
  case atStart => exact ⟨0, by omega, rfl, hide rfl, rfl⟩
  case round =>
    obtain ⟨i, hi, rfl, HG, rfl⟩ := hrel
    by_cases hlt : i < n
    · obtain ⟨c, hcs, hcat⟩ := HL.out i hlt
      obtain ⟨b, off, rfl, hbw, HA⟩ := HC.out (by omega)
      have hA := (HA.out i c hcs).on fun j => (bcell hB).1 b j hbw
      have c1 := hA.k1
      have HQ := hide (all_take_snoc (f := numB) hcat HG.out)
      have HK := fun w => kindOf_any c.op w
      obtain ⟨ko, hko⟩ : ∃ k : Int, k = (kindOp c.op : Nat) := ⟨_, rfl⟩
      rw [← hko] at HK
      have hnb : numB c = (ko == 1) := by unfold numB; rw [hko, Bool.eq_iff_iff]; simp; omega
      rw [hnb] at HQ
      clear hko hnb hcs hcat hA hx
      obtain ⟨op, hop⟩ : ∃ o, o = c.op := ⟨_, rfl⟩
      rw [← hop] at HK c1
      clear hop
      cases hkb : (ko == 1) with
      | true =>
        rw [hkb] at HQ
        have hk1 : ko = 1 := by simpa using hkb
        subst hk1
        go_wp2_with (go_at_call 102; refine (HK _).mono ?_; rintro e w' ⟨rfl, rfl⟩)
        go_round
        case rel => exact ⟨i + 1, by omega, by go_num, HQ, trivial⟩
        case measure => simp [intOf]; omega
      | false =>
        rw [hkb] at HQ
        have hk1 : ¬ ko = 1 := by simpa using hkb
        have HZ := hide (show z = true by rw [HD.out, all_take_false HQ.out]; rfl)
        clear hkb
        go_wp2_with (go_at_call 102; refine (HK _).mono ?_; rintro e w' ⟨rfl, rfl⟩)
        go_ret
        exact ⟨ret_bool HZ.out.symm, hB⟩
    · obtain rfl : i = n := by omega
      have HZ := hide (show z = false by
        have := HG.out
        rw [List.take_of_length_le (by rw [HN.out]; exact Nat.le_refl _)] at this
        rw [HD.out, this]; rfl)
      go_wp2
      go_ret
      exact ⟨ret_bool HZ.out.symm, hB⟩

theorem shape_arg {c : CD} (h : Shape c) : ∃ a : Nat, c.arg = a ∧ a ≤ 3 := by
  cases h with
  | num a k v ha h1 h6 hv => exact ⟨a, rfl, ha⟩
  | mask a v m ha hv hm => exact ⟨a, rfl, ha⟩
  | like a g ha hg => exact ⟨a, rfl, ha⟩
  | net a ip b lo hi ha hip hf => exact ⟨a, rfl, ha⟩
set_option maxHeartbeats 4000000 in
theorem fits_any (r : RL) (h : RuleOk r) (oa : Option Addr) (cap : Nat) (k : KL) (hk : KlOk k) (w : World) (hc : IsConds oa r.conds w) :
    Calls Tryz.prog 79 #[ruleV r oa cap, klV k] w fun e w' => e = .returned (.bool (fitsB r k)) ∧ Below w.heap.size w w' := by
  obtain ⟨n, hn⟩ : ∃ n, n = r.conds.length := ⟨_, rfl⟩
  have HC := hide (conds_parts hc n hn)
  have h4 : n ≤ 4 := by have := h.few; omega
  have HSH := hide h.conds
  have HL := hide (show ∀ i, i < n → ∃ c, r.conds[i]? = some c ∧ r.conds.take (i + 1) = r.conds.take i ++ [c] from fun i h => take_next (by omega))
  obtain ⟨m, hm⟩ : ∃ m : Nat, r.nr = m := ⟨r.nr.toNat, by have := h.nr0; omega⟩
  have hm8 : m ≤ 8 := by have := h.nr8; omega
  have HZ := hide (show fitsB r k = (decide ((k.nr : Int) = r.nr) && r.conds.all (regB k)) from rfl)
  obtain ⟨z, hz⟩ : ∃ z, z = fitsB r k := ⟨_, rfl⟩
  rw [← hz] at HZ ⊢
  clear hc hz h
  obtain ⟨nr, cs, ⟨ak, ae⟩⟩ := r
  unfold ruleV klV klC
  simp only at HC HL HZ HSH hn hm ⊢
  subst hm
  rw [← hn]
  have HN := hide hn
  clear hn
  have hwr : IntKind.u32.wrap (m : Int) = m := by rw [IntKind.wrap_u32]; omega
  by_cases hne : k.nr = m
  · have HZ2 := hide (show z = cs.all (regB k) by rw [HZ.out, hne]; simp)
    have hnn : (k.nr : Int) = m := by omega
    clear HZ
    obtain ⟨V, hV, hB, hx, hy⟩ := two_box w #[.int .i64 m, .slice oa n cap, .int .i64 ak, .int .i64 ae] (klC k) 41 52
    have HY := hide hy
    have k1 := hx 1
    have kn := hy 1
    have kn2 : V.cell? ⟨w.heap.size + 1, 1, none⟩ = some (.int .u32 m) := by rw [kn]; show some (Value.int .u32 (k.nr : Int)) = _; rw [hnn]
    clear kn hy
    unfold klC at hV
    rw [hnn] at hV ⊢
    have HREG := hide (regN_at k)
    have HKO := hide (fun i => regN_lt hk i)
    obtain ⟨kar, hkar⟩ : ∃ x, x = k.arch := ⟨_, rfl⟩
    obtain ⟨kb0, hkb0⟩ : ∃ x, x = k.a0 := ⟨_, rfl⟩
    obtain ⟨kb1, hkb1⟩ : ∃ x, x = k.a1 := ⟨_, rfl⟩
    obtain ⟨kb2, hkb2⟩ : ∃ x, x = k.a2 := ⟨_, rfl⟩
    obtain ⟨kb3, hkb3⟩ : ∃ x, x = k.a3 := ⟨_, rfl⟩
    rw [← hkar, ← hkb0, ← hkb1, ← hkb2, ← hkb3] at hV ⊢
    clear hkar hkb0 hkb1 hkb2 hkb3 hk hne hnn
    go_enter Tryz.func79, Tryz.ntmps79
    go_wp2
    rw [← hV]
    clear hV
    go_loopw [16] (fun I w' => ∃ i : Nat, i ≤ n ∧ I = .int .i64 i ∧ Hid ((cs.take i).all (regB k) = true) ∧ Hid (Below V.heap.size V w')) (fun I _ => n - (intOf I).toNat)
    case atStart => exact ⟨0, by omega, rfl, hide rfl, hide (Below.refl _ _)⟩
    case round =>
      obtain ⟨i, hi, rfl, HG, HB⟩ := hrel
      have HW := hide (below_next hB HB.out)
      by_cases hlt : i < n
      · obtain ⟨c, hcs, hcat⟩ := HL.out i hlt
        obtain ⟨b, off, rfl, hbw, HA⟩ := HC.out (by omega)
        have hA := (HA.out i c hcs).on fun j => (bcell HW.out).1 b j hbw
        have HQ := hide (all_take_snoc (f := regB k) hcat HG.out)
        have hok := hA.ok
        obtain ⟨a, haa, ha3⟩ := shape_arg (HSH.out c (List.mem_of_getElem? hcs))
        obtain ⟨x, hxx⟩ : ∃ x, x = regN k a := ⟨_, rfl⟩
        have hxl : x < 18446744073709551616 := by rw [hxx]; exact HKO.out a
        have kreg := (HY.out (2 + a)).trans (HREG.out a ha3)
        rw [← hxx] at kreg
        have HH := fun w => holds_any c hok x hxl w
        have HRB := hide (show regB k c = (!numB c || holdsN c x) by unfold regB; rw [haa, Int.toNat_natCast, hxx])
        obtain ⟨hl, hhl⟩ : ∃ z, z = holdsN c x := ⟨_, rfl⟩
        rw [← hhl] at HH HRB
        have HK := fun w => kindOf_any c.op w
        obtain ⟨ko, hko⟩ : ∃ k : Int, k = (kindOp c.op : Nat) := ⟨_, rfl⟩
        rw [← hko] at HK
        have hnb : numB c = (ko == 1) := by unfold numB; rw [hko, Bool.eq_iff_iff]; simp; omega
        rw [hnb] at HRB
        rw [HRB.out] at HQ
        obtain ⟨p0, p1, p2, p3, p4, p5, p6, p7, p8, _⟩ := hA
        clear hko hnb hcs hcat hxx hxl hhl hok HRB
        obtain ⟨arg, op, v, mm, gl, ⟨ip, bb, lo, hh⟩⟩ := c
        unfold condV at HH
        simp only at p0 p1 p2 p3 p4 p5 p6 p7 p8 HH HK haa
        subst haa
        have g1 := keep_cell HB.out k1
        have i1 : (0 : Int) ≤ a := by omega
        have i2 : (a : Int) < 4 := by omega
        go_wp2
        obtain ⟨W1, hW1, hW1b, _, hW1c⟩ := one_box wr #[.int .i64 a, .int .i64 op, .int .u64 v, .int .u64 mm, .string gl, .int .u32 ip, .int .i64 bb, .int .i64 lo, .int .i64 hh] 47
        rw [← hW1]
        clear hW1
        have g0 := cell_regrown (hW1c 0)
        have g1' := cell_regrown (hW1c 1)
        have g2 := cell_regrown (hW1c 2)
        have g3 := cell_regrown (hW1c 3)
        have g4 := cell_regrown (hW1c 4)
        have g5 := cell_regrown (hW1c 5)
        have g6 := cell_regrown (hW1c 6)
        have g7 := cell_regrown (hW1c 7)
        have g8 := cell_regrown (hW1c 8)
        have gr := cell_regrown (keep_cell (below_next HB.out hW1b) kreg)
        have cK : ∀ d os, Calls Tryz.prog 102 #[.int .i64 op] (grow (redrawn W1 d) os) fun e w'' => e = .returned (.int .i64 ko) ∧ ∃ p : Regrown, w'' = grow (redrawn W1 p.d) p.os := fun d os => regrown_same (HK _)
        have cH : ∀ d os, Calls Tryz.prog 108 #[.agg #[.int .i64 a, .int .i64 op, .int .u64 v, .int .u64 mm, .string gl, .int .u32 ip, .int .i64 bb, .int .i64 lo, .int .i64 hh], .int .u64 x] (grow (redrawn W1 d) os) fun e w'' => e = .returned (.bool hl) ∧ ∃ p : Regrown, w'' = grow (redrawn W1 p.d) p.os := fun d os => Calls.regrown_of (HH _)
        clear hW1c p0 p1 p2 p3 p4 p5 p6 p7 p8 HH HK kreg
        cases hkb : (ko == 1) with
        | false =>
          rw [hkb] at HQ
          refine wp_region_quiet_below (by kernel_rfl) (by kernel_rfl) ?_
          repeat (go_big_quiet_step (first | (go_at_call 102; exact cK _ _) | (go_at_call 108; exact cH _ _)))
          refine wpQuiet_nil ?_
          intro _ hw'
          obtain ⟨⟨dq, osq⟩, hw''⟩ := hw'
          subst hw''
          go_wp2
          go_round
          case rel => exact ⟨i + 1, by omega, by go_num, HQ, hide (below_next (below_next HB.out hW1b) (below_regrown _ _ _))⟩
          case measure => simp [intOf]; omega
        | true =>
          rw [hkb] at HQ
          cases hl with
          | true =>
            refine wp_region_quiet_below (by kernel_rfl) (by kernel_rfl) ?_
            repeat (go_big_quiet_step (first | (go_at_call 102; exact cK _ _) | (go_at_call 108; exact cH _ _)))
            refine wpQuiet_nil ?_
            intro _ hw'
            obtain ⟨⟨dq, osq⟩, hw''⟩ := hw'
            subst hw''
            go_wp2
            go_round
            case rel => exact ⟨i + 1, by omega, by go_num, HQ, hide (below_next (below_next HB.out hW1b) (below_regrown _ _ _))⟩
            case measure => simp [intOf]; omega
          | false =>
            have HF := hide (show z = false by rw [HZ2.out]; exact all_take_false HQ.out)
            refine wp_region_quiet_below (by kernel_rfl) (by kernel_rfl) ?_
            repeat (go_big_quiet_step (first | (go_at_call 102; exact cK _ _) | (go_at_call 108; exact cH _ _)))
            refine wpQuiet_nil ?_
            intro _ hw'
            obtain ⟨⟨dq, osq⟩, hw''⟩ := hw'
            subst hw''
            go_wp2
            go_ret
            exact ⟨ret_bool HF.out.symm, below_next (below_next HW.out hW1b) (below_regrown _ _ _)⟩
      · obtain rfl : i = n := by omega
        have HF := hide (show z = true by
          have := HG.out
          rw [List.take_of_length_le (by rw [HN.out]; exact Nat.le_refl _)] at this
          rw [HZ2.out, this])
        go_wp2
        go_ret
        exact ⟨ret_bool HF.out.symm, HW.out⟩
  · have HF := hide (show z = false by
      rw [HZ.out, decide_eq_false (by omega), Bool.false_and])
    have hn1 : ¬ (k.nr : Int) = m := by omega
    clear hne HZ
    go_enter Tryz.func79, Tryz.ntmps79
    go_wp2
    go_ret
    exact ⟨ret_bool HF.out.symm, below_next (box_below _ _) (box_below _ _)⟩
end Go.Proofs.YtklibmijiecbfaaGreat

/- leads. -/
namespace Go.Proofs.YtklibmijiecbfaaGreat
open Go.RowKit Go.Sort

/-- A value that a pointer leads to. -/
structure VL where
  path : ByteArray
  ip : Nat
  port : Int
structure VlOk (v : VL) : Prop where
  path : v.path.size ≤ 1000
  ip : v.ip < 4294967296
  port : I64 v.port
/-- The values of a call. -/
structure VS where
  v0 : VL
  v1 : VL
  v2 : VL
  v3 : VL
def VS.at (v : VS) : Nat → VL
  | 0 => v.v0
  | 1 => v.v1
  | 2 => v.v2
  | _ => v.v3
structure VsOk (v : VS) : Prop where
  v0 : VlOk v.v0
  v1 : VlOk v.v1
  v2 : VlOk v.v2
  v3 : VlOk v.v3
theorem VsOk.at {v : VS} (h : VsOk v) (i : Nat) : VlOk (v.at i) := by
  match i with
  | 0 => exact h.v0
  | 1 => exact h.v1
  | 2 => exact h.v2
  | i + 3 => exact h.v3
def vsC (v : VS) : Array Value := #[.string v.v0.path, .int .u32 v.v0.ip, .int .i64 v.v0.port, .string v.v1.path, .int .u32 v.v1.ip, .int .i64 v.v1.port, .string v.v2.path, .int .u32 v.v2.ip, .int .i64 v.v2.port, .string v.v3.path, .int .u32 v.v3.ip, .int .i64 v.v3.port]
def vsV (v : VS) : Value := .agg (vsC v)
theorem vsC_at (v : VS) (i : Nat) (h : i ≤ 3) : (vsC v)[i * 3]? = some (.string (v.at i).path) ∧ (vsC v)[i * 3 + 1]? = some (.int .u32 (v.at i).ip) ∧ (vsC v)[i * 3 + 2]? = some (.int .i64 (v.at i).port) := by
  rcases (by omega : i = 0 ∨ i = 1 ∨ i = 2 ∨ i = 3) with rfl | rfl | rfl | rfl <;> exact ⟨rfl, rfl, rfl⟩
def netHas (n : NT) (y : VL) : Bool := hasOf n.ip n.bits n.lo n.hi y.ip y.port
/-- Does a cond on what a pointer leads to hold, or is it on none? -/
def leadB (v : VS) (c : CD) : Bool := if c.op = 8 then Gl.matchR c.glob (v.at c.arg.toNat).path else if c.op = 9 then netHas c.net (v.at c.arg.toNat) else true
def leadsB (r : RL) (v : VS) : Bool := r.conds.all (leadB v)

set_option maxHeartbeats 4000000 in
set_option maxRecDepth 100000 in
theorem leads_any (r : RL) (h : RuleOk r) (oa : Option Addr) (cap : Nat) (v : VS) (hv : VsOk v) (w : World) (hc : IsConds oa r.conds w) :
    Calls Tryz.prog 86 #[ruleV r oa cap, vsV v] w fun e w' => e = .returned (.bool (leadsB r v)) ∧ Below w.heap.size w w' := by
  obtain ⟨n, hn⟩ : ∃ n, n = r.conds.length := ⟨_, rfl⟩
  have HC := hide (conds_parts hc n hn)
  have h4 : n ≤ 4 := by have := h.few; omega
  have HSH := hide h.conds
  have HL := hide (show ∀ i, i < n → ∃ c, r.conds[i]? = some c ∧ r.conds.take (i + 1) = r.conds.take i ++ [c] from fun i h => take_next (by omega))
  have HZ := hide (show leadsB r v = r.conds.all (leadB v) from rfl)
  obtain ⟨z, hz⟩ : ∃ z, z = leadsB r v := ⟨_, rfl⟩
  rw [← hz] at HZ ⊢
  clear hc hz h
  obtain ⟨nr, cs, ⟨ak, ae⟩⟩ := r
  obtain ⟨vc, hvc⟩ : ∃ c, c = vsC v := ⟨_, rfl⟩
  have hvs : vc.size = 12 := by rw [hvc]; rfl
  unfold ruleV vsV
  simp only at HC HL HZ HSH hn ⊢
  rw [← hn, ← hvc]
  have HN := hide hn
  have HVC := hide hvc
  clear hn hvc
  obtain ⟨V, hV, hB, hx, hy⟩ := two_box w #[.int .i64 nr, .slice oa n cap, .int .i64 ak, .int .i64 ae] vc 41 68
  have HY := hide hy
  have k1 := hx 1
  clear hy
  go_enter Tryz.func86, Tryz.ntmps86
  go_wp2
  rw [← hV]
  clear hV
  go_loopw [11] (fun I w' => ∃ i : Nat, i ≤ n ∧ I = .int .i64 i ∧ Hid ((cs.take i).all (leadB v) = true) ∧ Hid (Below V.heap.size V w')) (fun I _ => n - (intOf I).toNat)
  case atStart => exact ⟨0, by omega, rfl, hide rfl, hide (Below.refl _ _)⟩
  case round =>
    obtain ⟨i, hi, rfl, HG, HB⟩ := hrel
    have HW := hide (below_next hB HB.out)
    by_cases hlt : i < n
    · obtain ⟨c, hcs, hcat⟩ := HL.out i hlt
      obtain ⟨b, off, rfl, hbw, HA⟩ := HC.out (by omega)
      have hA := (HA.out i c hcs).on fun j => (bcell HW.out).1 b j hbw
      have HQ := hide (all_take_snoc (f := leadB v) hcat HG.out)
      have hok := hA.ok
      have hsh := HSH.out c (List.mem_of_getElem? hcs)
      obtain ⟨a, haa, ha3⟩ := shape_arg hsh
      obtain ⟨y, hyy⟩ : ∃ y, y = v.at a := ⟨_, rfl⟩
      have hyo : VlOk y := by rw [hyy]; exact hv.at a
      have hya := vsC_at v a ha3
      rw [← HVC.out, ← hyy] at hya
      have q0 := keep_cell HB.out ((HY.out (a * 3)).trans hya.1)
      have q1 := keep_cell HB.out ((HY.out (a * 3 + 1)).trans hya.2.1)
      have q2 := keep_cell HB.out ((HY.out (a * 3 + 2)).trans hya.2.2)
      have lw : w.heap.size + 1 < wr.heap.size := block_lt_of_cell q0
      have g1 := keep_cell HB.out k1
      have HM := fun (hg : c.glob.size ≤ 24) w => Gl.match_any c.glob y.path (by omega) hyo.path w
      have HH := fun w => has_any c.net.ip hok.net.ip c.net.bits c.net.lo c.net.hi hok.net.bits hok.net.lo hok.net.hi y.ip hyo.ip y.port w
      have hlb : leadB v c = if c.op = 8 then Gl.matchR c.glob y.path else if c.op = 9 then netHas c.net y else true := by unfold leadB; rw [haa, Int.toNat_natCast, hyy]
      rw [hlb] at HQ
      have hgl : c.op = 8 → c.glob.size ≤ 24 := fun h8 => by
        cases hsh with
        | num a k v ha h1 h6 hv => simp only at h8; omega
        | mask a v m ha hv hm => simp only at h8; omega
        | like a g ha hg => exact (glob_print hg).2
        | net a ip b lo hi ha hip hf => simp only at h8; omega
      obtain ⟨p0, p1, p2, p3, p4, p5, p6, p7, p8, _⟩ := hA
      clear hsh hya hyy hyo hok hcs hcat hlb
      obtain ⟨yp, yi, yo⟩ := y
      obtain ⟨arg, op, vv, mm, gl, ⟨ip, bb, lo, hh⟩⟩ := c
      simp only at p0 p1 p2 p3 p4 p5 p6 p7 p8 HH HM haa hgl HQ q0 q1 q2
      unfold netHas at HQ
      simp only at HQ
      subst haa
      have i1 : (0 : Int) ≤ a := by omega
      have i2 : (a : Int) < 4 := by omega
      by_cases h8 : op = 8
      · subst h8
        replace HM := HM (hgl rfl)
        rw [if_pos rfl] at HQ
        obtain ⟨mr, hmr⟩ : ∃ m, m = Gl.matchR gl yp := ⟨_, rfl⟩
        rw [← hmr] at HQ HM
        clear hmr hgl HH
        cases mr with
        | true =>
          go_wp2_with (go_at_call 113; refine (HM _).mono ?_; rintro e w1 ⟨rfl, hb1⟩)
          go_round
          case rel => exact ⟨i + 1, by omega, by go_num, HQ, hide (below_next (below_next HB.out (below_next (box_below _ _) (box_below _ _))) hb1)⟩
          case measure => simp [intOf]; omega
        | false =>
          have HF := hide (show z = false by rw [HZ.out]; exact all_take_false HQ.out)
          go_wp2_with (go_at_call 113; refine (HM _).mono ?_; rintro e w1 ⟨rfl, hb1⟩)
          go_ret
          exact ⟨ret_bool HF.out.symm, below_next (below_next HW.out (below_next (box_below _ _) (box_below _ _))) hb1⟩
      · rw [if_neg h8] at HQ
        by_cases h9 : op = 9
        · subst h9
          rw [if_pos rfl] at HQ
          obtain ⟨mr, hmr⟩ : ∃ m, m = hasOf ip bb lo hh yi yo := ⟨_, rfl⟩
          rw [← hmr] at HQ HH
          clear hmr hgl HM
          cases mr with
          | true =>
            go_wp2_with (go_at_call 114; refine (HH _).mono ?_; rintro e w1 ⟨rfl, hb1⟩)
            go_round
            case rel => exact ⟨i + 1, by omega, by go_num, HQ, hide (below_next (below_next HB.out (below_next (box_below _ _) (box_below _ _))) hb1)⟩
            case measure => simp [intOf]; omega
          | false =>
            have HF := hide (show z = false by rw [HZ.out]; exact all_take_false HQ.out)
            go_wp2_with (go_at_call 114; refine (HH _).mono ?_; rintro e w1 ⟨rfl, hb1⟩)
            go_ret
            exact ⟨ret_bool HF.out.symm, below_next (below_next HW.out (below_next (box_below _ _) (box_below _ _))) hb1⟩
        · rw [if_neg h9] at HQ
          clear HM HH hgl
          go_wp2
          go_round
          case rel => exact ⟨i + 1, by omega, by go_num, HQ, hide (below_next HB.out (below_next (box_below _ _) (box_below _ _)))⟩
          case measure => simp [intOf]; omega
    · obtain rfl : i = n := by omega
      have HF := hide (show z = true by
        have := HG.out
        rw [List.take_of_length_le (by rw [HN.out]; exact Nat.le_refl _)] at this
        rw [HZ.out, this])
      go_wp2
      go_ret
      exact ⟨ret_bool HF.out.symm, HW.out⟩
end Go.Proofs.YtklibmijiecbfaaGreat

/- policy.Judge. -/
namespace Go.Proofs.YtklibmijiecbfaaGreat
open Go.RowKit Go.Sort

def judgeFrom (k : KL) (els : ACT) : List RL → Nat → ACT × Nat
  | [], _ => (els, 0)
  | r :: t, i => if fitsB r k then (if deepB r then (⟨4, 0⟩, i) else (r.act, 0)) else judgeFrom k els t (i + 1)
def judgeR (p : POL) (k : KL) : ACT × Nat := if k.arch = 3221225534 then judgeFrom k p.els p.rules 0 else (⟨3, 0⟩, 0)
def decideFrom (k : KL) (v : VS) (els : ACT) : List RL → ACT
  | [] => els
  | r :: t => if fitsB r k && leadsB r v then r.act else decideFrom k v els t
def decideR (p : POL) (k : KL) (v : VS) : ACT := if k.arch = 3221225534 then decideFrom k v p.els p.rules else ⟨3, 0⟩
def verC (a : ACT) (i : Nat) : Array Value := #[.int .i64 a.kind, .int .i64 a.errno, .int .i64 i]
def verV (x : ACT × Nat) : Value := .agg (verC x.1 x.2)
/-- What Judge hands back. -/
def judgeV (p : POL) (k : KL) : Value := .tuple #[if polF p = 0 then verV (judgeR p k) else verV (⟨0, 0⟩, 0), errV (polF p)]
def decideV (p : POL) (k : KL) (v : VS) : Value := .tuple #[if polF p = 0 then actV (decideR p k v) else actV ⟨0, 0⟩, errV (polF p)]
theorem size_ver : (Tryz.prog.info? 121).map (·.size) = some 3 := by kernel_rfl
theorem verC_one (a : ACT) (i : Nat) : (verC a i).all (·.oneCell') = true := by simp [verC, Value.oneCell']
theorem results_ver {fn : Func} {p u : Tmp} (h : fn.results = #[.cell p 121, .tmp u]) (tmps : Array Value) (w : World) (g : Nat) (cs : Array Value) (v : Value) (hs : cs.size = 3)
    (hp : tmps.getD p undef = .pointer (some ⟨g, 0, none⟩)) (hv : tmps.getD u undef = v) (hg : w.heap[g]? = some (.cells cs 121 (0, 0))) :
    (results fn tmps).run Tryz.prog w = .ok (.tuple #[.agg cs, v]) w := by
  rw [results_cell_tmp h, hp, hv]
  have hl := run_loadVar_row (P := Tryz.prog) w g 121 121 cs (0, 0) _ hg Tryz.underlying121 rfl (by rw [hs]; exact size_ver)
  simp [asAddr, hl]
theorem results_act {fn : Func} {p u : Tmp} (h : fn.results = #[.cell p 24, .tmp u]) (tmps : Array Value) (w : World) (g : Nat) (cs : Array Value) (v : Value) (hs : cs.size = 2)
    (hp : tmps.getD p undef = .pointer (some ⟨g, 0, none⟩)) (hv : tmps.getD u undef = v) (hg : w.heap[g]? = some (.cells cs 24 (0, 0))) :
    (results fn tmps).run Tryz.prog w = .ok (.tuple #[.agg cs, v]) w := by
  rw [results_cell_tmp h, hp, hv]
  have hl := run_loadVar_row (P := Tryz.prog) w g 24 24 cs (0, 0) _ hg Tryz.underlying24 rfl (by rw [hs]; exact size_action)
  simp [asAddr, hl]
theorem three_box (w : World) (x y z : Array Value) (tx ty tz : TypeId) : ∃ V, V = ((w.alloc (.cells x tx)).alloc (.cells y ty)).alloc (.cells z tz) ∧ Below w.heap.size w V ∧ V.heap.size = w.heap.size + 3 ∧ (∀ j : Nat, V.cell? ⟨w.heap.size, j, none⟩ = x[j]?) ∧ (∀ j : Nat, V.cell? ⟨w.heap.size + 1, j, none⟩ = y[j]?) ∧ V.heap[w.heap.size + 2]? = some (.cells z tz (0, 0)) := by
  obtain ⟨U, hU, hb, h1, h2⟩ := two_box w x y tx ty
  have hs : U.heap.size = w.heap.size + 2 := by rw [hU, World.size_alloc, World.size_alloc]
  refine ⟨U.alloc (.cells z tz), by rw [hU], below_next hb (box_below _ _), by rw [World.size_alloc, hs], fun j => ?_, fun j => ?_, ?_⟩
  · rw [← h1 j]; exact (bcell (box_below U _)).1 _ j (by omega)
  · rw [← h2 j]; exact (bcell (box_below U _)).1 _ j (by omega)
  · rw [← hs]; exact heap_alloc_new _ _

theorem drop_next {α : Type} {cs : List α} {i : Nat} (h : i < cs.length) : ∃ c, cs[i]? = some c ∧ cs.drop i = c :: cs.drop (i + 1) :=
  ⟨cs[i], List.getElem?_eq_getElem h, (List.getElem_cons_drop h).symm⟩

set_option maxHeartbeats 1000000 in
set_option maxRecDepth 100000 in
theorem judge_any (p : POL) (oa : Option Addr) (cap : Nat) (k : KL) (hk : KlOk k) (w : World) (hp : IsPol oa cap p w) :
    Calls Tryz.prog 50 #[polV p oa cap, klV k] w fun e w' => e = .returned (judgeV p k) ∧ Below w.heap.size w w' := by
  obtain ⟨n, hn⟩ : ∃ n, n = p.rules.length := ⟨_, rfl⟩
  obtain ⟨V, hV, hB, hVs, hx, hy, hz⟩ := three_box w #[.slice oa p.rules.length cap, .int .i64 p.els.kind, .int .i64 p.els.errno] (klC k) #[.int .i64 0, .int .i64 0, .int .i64 0] 26 52 121
  have HCK := pcheck_any p oa cap V (hp.on hB)
  have HC := hide (pol_parts hp n hn)
  have hmax : n ≤ 9223372036854775807 := by have h1 := hp.le; have h2 := hp.cap; unfold maxLen at h2; omega
  have hpk := hp.ok
  clear hp
  unfold klC at hV hy
  by_cases hf : polF p = 0
  · have hok := pol_ok hf hpk
    have HV := hide (show judgeV p k = .tuple #[verV (judgeR p k), .nilIface] by unfold judgeV; rw [if_pos hf, hf]; rfl)
    rw [hf, errV_zero] at HCK
    have HRU := hide hok.rules
    have h12 : n ≤ 12 := by have := hok.few; omega
    have HFT := fun r hr oa cap X hc => fits_any r hr oa cap k hk X hc
    have HKL := hide hk
    clear hf hpk hok hk
    obtain ⟨rs, ⟨ak, ae⟩⟩ := p
    have HL := hide (show ∀ i, i < n → ∃ c, rs[i]? = some c ∧ rs.drop i = c :: rs.drop (i + 1) from fun i h => drop_next (by simp only at hn; omega))
    unfold polV klV klC at *
    simp only at *
    rw [← hn] at hV hx HCK ⊢
    have HN := hide hn
    clear hn
    obtain ⟨kar, kn, b0, b1, b2, b3⟩ := k
    simp only at *
    have x0 := hx 0
    have x1 := hx 1
    have x2 := hx 2
    have y0 := hy 0
    have y1 := hy 1
    have y2 := hy 2
    have y3 := hy 3
    have y4 := hy 4
    have y5 := hy 5
    simp only [List.getElem?_toArray, List.getElem?_cons_zero, List.getElem?_cons_succ] at x0 x1 x2 y0 y1 y2 y3 y4 y5
    clear hx hy
    by_cases ha : kar = 3221225534
    · have HJ := hide (show judgeR ⟨rs, ⟨ak, ae⟩⟩ ⟨kar, kn, b0, b1, b2, b3⟩ = judgeFrom ⟨kar, kn, b0, b1, b2, b3⟩ ⟨ak, ae⟩ rs 0 from if_pos ha)
      have ha' : (kar : Int) = 3221225534 := by omega
      rw [ha'] at hV y0 ⊢
      have HKA := hide ha'
      clear ha ha'
      go_enter Tryz.func50, Tryz.ntmps50
      go_wp2_with (go_at_call 19; rw [← hV]; clear hV; refine HCK.mono ?_; rintro e X ⟨rfl, hX⟩; have X0 := keep_cell hX x0; have X1 := keep_cell hX x1; have X2 := keep_cell hX x2; have Y0 := keep_cell hX y0; have Y1 := keep_cell hX y1; have Y2 := keep_cell hX y2; have Y3 := keep_cell hX y3; have Y4 := keep_cell hX y4; have Y5 := keep_cell hX y5)
      go_loopw [23] (fun I w' => ∃ i : Nat, i ≤ n ∧ I = .int .i64 i ∧ Hid (judgeFrom ⟨kar, kn, b0, b1, b2, b3⟩ ⟨ak, ae⟩ rs 0 = judgeFrom ⟨kar, kn, b0, b1, b2, b3⟩ ⟨ak, ae⟩ (rs.drop i) i) ∧ Hid (Below X.heap.size X w')) (fun I _ => n - (intOf I).toNat)
      case atStart => exact ⟨0, by omega, rfl, hide rfl, hide (Below.refl _ _)⟩
      case round =>
        obtain ⟨i, hi, rfl, HG, HB⟩ := hrel
        have HW := hide (below_next (below_next hB hX) HB.out)
        have HVW := hide (below_next hX HB.out)
        have hsw : w.heap.size + 2 < V.heap.size := by omega
        by_cases hlt : i < n
        · obtain ⟨c, hcs, hdr⟩ := HL.out i hlt
          obtain ⟨b, off, rfl, hbw, HA⟩ := HC.out (by omega)
          obtain ⟨ca, cc, hR0⟩ := HA.out i c hcs
          have hR := hR0.on hbw HW.out
          clear hR0
          have hro := HRU.out c (List.mem_of_getElem? hcs)
          have HF1 := HFT c hro ca cc
          have HD1 := fun X hc => isDeep_any c hro.few ca cc X hc
          have HIC := hide hR.conds
          have HG2 := hide (show judgeFrom ⟨kar, kn, b0, b1, b2, b3⟩ ⟨ak, ae⟩ rs 0 = if fitsB c ⟨kar, kn, b0, b1, b2, b3⟩ then (if deepB c then (⟨4, 0⟩, i) else (c.act, 0)) else judgeFrom ⟨kar, kn, b0, b1, b2, b3⟩ ⟨ak, ae⟩ (rs.drop (i + 1)) (i + 1) by rw [HG.out, hdr, judgeFrom])
          obtain ⟨fz, hfz⟩ : ∃ z, z = fitsB c ⟨kar, kn, b0, b1, b2, b3⟩ := ⟨_, rfl⟩
          obtain ⟨dz, hdz⟩ : ∃ z, z = deepB c := ⟨_, rfl⟩
          rw [← hfz] at HF1 HG2
          rw [← hdz] at HD1 HG2
          obtain ⟨p0, p1, p2, p3, _, _, _, _⟩ := hR
          clear hfz hdz hro hcs hdr HG
          obtain ⟨nr, cs, ⟨rk, re⟩⟩ := c
          unfold ruleV at HF1 HD1
          simp only at p0 p1 p2 p3 HF1 HD1 HG2 HIC
          simp only [HKA.out] at HF1
          have g0 := keep_cell HB.out X0
          have z0 := keep_cell HB.out Y0
          have z1 := keep_cell HB.out Y1
          have z2 := keep_cell HB.out Y2
          have z3 := keep_cell HB.out Y3
          have z4 := keep_cell HB.out Y4
          have z5 := keep_cell HB.out Y5
          have lw : w.heap.size + 1 < wr.heap.size := block_lt_of_cell z0
          cases fz with
          | false =>
            rw [if_neg (by decide)] at HG2
            go_wp2_with (go_at_call 79; refine (HF1 _ (HIC.out.on (box_below _ _))).mono ?_; rintro e w1 ⟨rfl, hb1⟩)
            go_round
            case rel => exact ⟨i + 1, by omega, by go_num, HG2, hide (below_next HB.out (below_next (box_below _ _) hb1))⟩
            case measure => simp [intOf]; omega
          | true =>
            rw [if_pos rfl] at HG2
            obtain ⟨W1, hW1, hW1b, _, hW1c⟩ := one_box wr #[.int .i64 nr, .slice ca cs.length cc, .int .i64 rk, .int .i64 re] 41
            have r0 := hW1c 0
            have r1 := hW1c 1
            have r2 := hW1c 2
            have r3 := hW1c 3
            simp only [List.getElem?_toArray, List.getElem?_cons_zero, List.getElem?_cons_succ] at r0 r1 r2 r3
            clear hW1c
            cases dz with
            | true =>
              rw [if_pos rfl] at HG2
              go_wp2_with (first
                | (go_at_call 79; rw [← hW1]; refine (HF1 _ (HIC.out.on hW1b)).mono ?_; rintro e w1 ⟨rfl, hb1⟩; have s0 := keep_cell hb1 r0; have s1 := keep_cell hb1 r1; have s2 := keep_cell hb1 r2; have s3 := keep_cell hb1 r3; have HB1 := hide hb1; clear hb1)
                | (go_at_call 80; refine (HD1 _ ((HIC.out.on hW1b).on HB1.out)).mono ?_; rintro e w2 ⟨rfl, hb2⟩; have hr2 : w2.heap[w.heap.size + 2]? = some (.cells #[.int .i64 0, .int .i64 0, .int .i64 0] 121 (0, 0)) := ((below_next HVW.out (below_next hW1b (below_next HB1.out hb2))).block _ hsw).trans hz)
                | (refine wpList_store_row rfl 121 _ _ rfl (w.heap.size + 2) (verC ⟨4, 0⟩ i) rfl rfl 121 _ hr2 size_ver rfl (verC_one _ _) ?_))
              refine bodyPost_ret (v := .tuple #[.agg (verC ⟨4, 0⟩ i), .nilIface]) (results_ver rfl _ _ (w.heap.size + 2) (verC ⟨4, 0⟩ i) _ rfl rfl rfl (setRow_heap _ _ _ _ _ _ hr2)) rfl ⟨?_, below_setRow (below_next HW.out (below_next hW1b (below_next HB1.out hb2))) (by omega) _⟩
              rw [HV.out, HJ.out, HG2.out]
              rfl
            | false =>
              rw [if_neg (by decide)] at HG2
              go_wp2_with (first
                | (go_at_call 79; rw [← hW1]; refine (HF1 _ (HIC.out.on hW1b)).mono ?_; rintro e w1 ⟨rfl, hb1⟩; have s0 := keep_cell hb1 r0; have s1 := keep_cell hb1 r1; have s2 := keep_cell hb1 r2; have s3 := keep_cell hb1 r3; have HB1 := hide hb1; clear hb1)
                | (go_at_call 80; refine (HD1 _ ((HIC.out.on hW1b).on HB1.out)).mono ?_; rintro e w2 ⟨rfl, hb2⟩; have t2 := keep_cell hb2 s2; have t3 := keep_cell hb2 s3; have hr2 : w2.heap[w.heap.size + 2]? = some (.cells #[.int .i64 0, .int .i64 0, .int .i64 0] 121 (0, 0)) := ((below_next HVW.out (below_next hW1b (below_next HB1.out hb2))).block _ hsw).trans hz)
                | (refine wpList_store_row rfl 121 _ _ rfl (w.heap.size + 2) (verC ⟨rk, re⟩ 0) rfl rfl 121 _ hr2 size_ver rfl (verC_one _ _) ?_))
              refine bodyPost_ret (v := .tuple #[.agg (verC ⟨rk, re⟩ 0), .nilIface]) (results_ver rfl _ _ (w.heap.size + 2) (verC ⟨rk, re⟩ 0) _ rfl rfl rfl (setRow_heap _ _ _ _ _ _ hr2)) rfl ⟨?_, below_setRow (below_next HW.out (below_next hW1b (below_next HB1.out hb2))) (by omega) _⟩
              rw [HV.out, HJ.out, HG2.out]
              rfl
        · obtain rfl : i = n := by omega
          have HG2 := hide (show judgeFrom ⟨kar, kn, b0, b1, b2, b3⟩ ⟨ak, ae⟩ rs 0 = (⟨ak, ae⟩, 0) by
            rw [HG.out, List.drop_eq_nil_of_le (by rw [HN.out]; exact Nat.le_refl _), judgeFrom])
          have g1 := keep_cell HB.out X1
          have g2 := keep_cell HB.out X2
          have hr2 : wr.heap[w.heap.size + 2]? = some (.cells #[.int .i64 0, .int .i64 0, .int .i64 0] 121 (0, 0)) := (HVW.out.block _ hsw).trans hz
          go_wp2_with (refine wpList_store_row rfl 121 _ _ rfl (w.heap.size + 2) (verC ⟨ak, ae⟩ 0) rfl rfl 121 _ hr2 size_ver rfl (verC_one _ _) ?_)
          refine bodyPost_ret (v := .tuple #[.agg (verC ⟨ak, ae⟩ 0), .nilIface]) (results_ver rfl _ _ (w.heap.size + 2) (verC ⟨ak, ae⟩ 0) _ rfl rfl rfl (setRow_heap _ _ _ _ _ _ hr2)) rfl ⟨?_, below_setRow HW.out (by omega) _⟩
          rw [HV.out, HJ.out, HG2.out]
          rfl
    · have HJ := hide (show judgeR ⟨rs, ⟨ak, ae⟩⟩ ⟨kar, kn, b0, b1, b2, b3⟩ = (⟨3, 0⟩, 0) from if_neg ha)
      have ha' : ¬ (kar : Int) = 3221225534 := by omega
      clear ha
      go_enter Tryz.func50, Tryz.ntmps50
      go_wp2_with (first
        | (go_at_call 19; rw [← hV]; clear hV; refine HCK.mono ?_; rintro e X ⟨rfl, hX⟩; have Y0 := keep_cell hX y0; have hr2 : X.heap[w.heap.size + 2]? = some (.cells #[.int .i64 0, .int .i64 0, .int .i64 0] 121 (0, 0)) := (hX.block _ (by omega)).trans hz)
        | (refine wpList_store_row rfl 121 _ _ rfl (w.heap.size + 2) (verC ⟨3, 0⟩ 0) rfl rfl 121 _ hr2 size_ver rfl (verC_one _ _) ?_))
      refine bodyPost_ret (v := .tuple #[.agg (verC ⟨3, 0⟩ 0), .nilIface]) (results_ver rfl _ _ (w.heap.size + 2) (verC ⟨3, 0⟩ 0) _ rfl rfl rfl (setRow_heap _ _ _ _ _ _ hr2)) rfl ⟨?_, below_setRow (below_next hB hX) (by omega) _⟩
      rw [HV.out, HJ.out]
      rfl
  · have HV := hide (show judgeV p k = .tuple #[verV (⟨0, 0⟩, 0), .iface 82 (.int .i64 (polF p : Nat))] by unfold judgeV; rw [if_neg hf, errV_pos hf])
    rw [errV_pos hf] at HCK
    clear hf hpk hk HC
    unfold polV klV klC at *
    have x0 := hx 0
    have x1 := hx 1
    have x2 := hx 2
    simp only [List.getElem?_toArray, List.getElem?_cons_zero, List.getElem?_cons_succ] at x0 x1 x2
    clear hx hy
    go_enter Tryz.func50, Tryz.ntmps50
    go_wp2_with (first
      | (go_at_call 19; rw [← hV]; clear hV; refine HCK.mono ?_; rintro e X ⟨rfl, hX⟩; have hr2 : X.heap[w.heap.size + 2]? = some (.cells #[.int .i64 0, .int .i64 0, .int .i64 0] 121 (0, 0)) := (hX.block _ (by omega)).trans hz)
      | (refine wpList_store_row rfl 121 _ _ rfl (w.heap.size + 2) (verC ⟨0, 0⟩ 0) rfl rfl 121 _ hr2 size_ver rfl (verC_one _ _) ?_))
    refine bodyPost_ret (v := .tuple #[.agg (verC ⟨0, 0⟩ 0), .iface 82 (.int .i64 (polF p : Nat))]) (results_ver rfl _ _ (w.heap.size + 2) (verC ⟨0, 0⟩ 0) _ rfl rfl rfl (setRow_heap _ _ _ _ _ _ hr2)) rfl ⟨?_, below_setRow (below_next hB hX) (by omega) _⟩
    rw [HV.out]
    rfl
end Go.Proofs.YtklibmijiecbfaaGreat

/- policy.Decide. -/
namespace Go.Proofs.YtklibmijiecbfaaGreat
open Go.RowKit Go.Sort

theorem four_box (w : World) (x y z u : Array Value) (tx ty tz tu : TypeId) : ∃ V, V = (((w.alloc (.cells x tx)).alloc (.cells y ty)).alloc (.cells z tz)).alloc (.cells u tu) ∧ Below w.heap.size w V ∧ V.heap.size = w.heap.size + 4 ∧ (∀ j : Nat, V.cell? ⟨w.heap.size, j, none⟩ = x[j]?) ∧ (∀ j : Nat, V.cell? ⟨w.heap.size + 1, j, none⟩ = y[j]?) ∧ (∀ j : Nat, V.cell? ⟨w.heap.size + 2, j, none⟩ = z[j]?) ∧ V.heap[w.heap.size + 3]? = some (.cells u tu (0, 0)) := by
  obtain ⟨U, hU, hb, hs, h1, h2, h3⟩ := three_box w x y z tx ty tz
  refine ⟨U.alloc (.cells u tu), by rw [hU], below_next hb (box_below _ _), by rw [World.size_alloc, hs], fun j => ?_, fun j => ?_, fun j => ?_, ?_⟩
  · rw [← h1 j]; exact (bcell (box_below U _)).1 _ j (by omega)
  · rw [← h2 j]; exact (bcell (box_below U _)).1 _ j (by omega)
  · rw [(bcell (box_below U _)).1 _ j (by omega)]; exact cell_of_row _ _ j _ _ _ h3
  · rw [← hs]; exact heap_alloc_new _ _

set_option maxHeartbeats 2000000 in
set_option maxRecDepth 100000 in
theorem decide_any (p : POL) (oa : Option Addr) (cap : Nat) (k : KL) (hk : KlOk k) (v : VS) (hv : VsOk v) (w : World) (hp : IsPol oa cap p w) :
    Calls Tryz.prog 57 #[polV p oa cap, klV k, vsV v] w fun e w' => e = .returned (decideV p k v) ∧ Below w.heap.size w w' := by
  obtain ⟨n, hn⟩ : ∃ n, n = p.rules.length := ⟨_, rfl⟩
  obtain ⟨V, hV, hB, hVs, hx, hy, hu, hz⟩ := four_box w #[.slice oa p.rules.length cap, .int .i64 p.els.kind, .int .i64 p.els.errno] (klC k) (vsC v) #[.int .i64 0, .int .i64 0] 26 52 68 24
  have HCK := pcheck_any p oa cap V (hp.on hB)
  have HC := hide (pol_parts hp n hn)
  have hmax : n ≤ 9223372036854775807 := by have h1 := hp.le; have h2 := hp.cap; unfold maxLen at h2; omega
  have hpk := hp.ok
  clear hp
  unfold klC at hV hy
  unfold vsC at hV hu
  by_cases hf : polF p = 0
  · have hok := pol_ok hf hpk
    have HV := hide (show decideV p k v = .tuple #[actV (decideR p k v), .nilIface] by unfold decideV; rw [if_pos hf, hf]; rfl)
    rw [hf, errV_zero] at HCK
    have HRU := hide hok.rules
    have h12 : n ≤ 12 := by have := hok.few; omega
    have HFT := fun r hr oa cap X hc => fits_any r hr oa cap k hk X hc
    have HLT := fun r hr oa cap X hc => leads_any r hr oa cap v hv X hc
    clear hf hpk hok hk hv
    obtain ⟨rs, ⟨ak, ae⟩⟩ := p
    have HL := hide (show ∀ i, i < n → ∃ c, rs[i]? = some c ∧ rs.drop i = c :: rs.drop (i + 1) from fun i h => drop_next (by simp only at hn; omega))
    unfold polV klV klC vsV vsC at *
    simp only at *
    rw [← hn] at hV hx HCK ⊢
    have HN := hide hn
    clear hn
    obtain ⟨kar, kn, b0, b1, b2, b3⟩ := k
    obtain ⟨⟨pa0, ip0, po0⟩, ⟨pa1, ip1, po1⟩, ⟨pa2, ip2, po2⟩, ⟨pa3, ip3, po3⟩⟩ := v
    simp only at *
    have x0 := hx 0
    have x1 := hx 1
    have x2 := hx 2
    have y0 := hy 0
    have y1 := hy 1
    have y2 := hy 2
    have y3 := hy 3
    have y4 := hy 4
    have y5 := hy 5
    have vu0 := hu 0
    have vu1 := hu 1
    have vu2 := hu 2
    have vu3 := hu 3
    have vu4 := hu 4
    have vu5 := hu 5
    have vu6 := hu 6
    have vu7 := hu 7
    have vu8 := hu 8
    have vu9 := hu 9
    have vu10 := hu 10
    have vu11 := hu 11
    simp only [List.getElem?_toArray, List.getElem?_cons_zero, List.getElem?_cons_succ] at x0 x1 x2 y0 y1 y2 y3 y4 y5 vu0 vu1 vu2 vu3 vu4 vu5 vu6 vu7 vu8 vu9 vu10 vu11
    clear hx hy hu
    by_cases ha : kar = 3221225534
    · have HJ := hide (show decideR ⟨rs, ⟨ak, ae⟩⟩ ⟨kar, kn, b0, b1, b2, b3⟩ ⟨⟨pa0, ip0, po0⟩, ⟨pa1, ip1, po1⟩, ⟨pa2, ip2, po2⟩, ⟨pa3, ip3, po3⟩⟩ = decideFrom ⟨kar, kn, b0, b1, b2, b3⟩ ⟨⟨pa0, ip0, po0⟩, ⟨pa1, ip1, po1⟩, ⟨pa2, ip2, po2⟩, ⟨pa3, ip3, po3⟩⟩ ⟨ak, ae⟩ rs from if_pos ha)
      have ha' : (kar : Int) = 3221225534 := by omega
      rw [ha'] at hV y0 ⊢
      have HKA := hide ha'
      clear ha ha'
      obtain ⟨kk, hkk⟩ : ∃ k : KL, k = ⟨kar, kn, b0, b1, b2, b3⟩ := ⟨_, rfl⟩
      obtain ⟨vv, hvv⟩ : ∃ v : VS, v = ⟨⟨pa0, ip0, po0⟩, ⟨pa1, ip1, po1⟩, ⟨pa2, ip2, po2⟩, ⟨pa3, ip3, po3⟩⟩ := ⟨_, rfl⟩
      rw [← hkk, ← hvv] at HJ HV ⊢
      have HKK := hide hkk
      have HVV := hide hvv
      clear hkk hvv
      go_enter Tryz.func57, Tryz.ntmps57
      go_wp2_with (go_at_call 19; rw [← hV]; clear hV; refine HCK.mono ?_; rintro e X ⟨rfl, hX⟩; have X0 := keep_cell hX x0; have X1 := keep_cell hX x1; have X2 := keep_cell hX x2; have Y0 := keep_cell hX y0; refine Hid.out ?_)
      refine hide ?_
      go_wp2
      go_loopw [23] (fun I w' => ∃ i : Nat, i ≤ n ∧ I = .int .i64 i ∧ Hid (decideFrom kk vv ⟨ak, ae⟩ rs = decideFrom kk vv ⟨ak, ae⟩ (rs.drop i)) ∧ Hid (Below X.heap.size X w')) (fun I _ => n - (intOf I).toNat)
      case atStart => exact ⟨0, by omega, rfl, hide rfl, hide (Below.refl _ _)⟩
      case round =>
        obtain ⟨i, hi, rfl, HG, HB⟩ := hrel
        have HW := hide (below_next (below_next hB hX) HB.out)
        have HVW := hide (below_next hX HB.out)
        have hsw : w.heap.size + 3 < V.heap.size := by omega
        have hr2 : wr.heap[w.heap.size + 3]? = some (.cells #[.int .i64 0, .int .i64 0] 24 (0, 0)) := (HVW.out.block _ hsw).trans hz
        by_cases hlt : i < n
        · obtain ⟨c, hcs, hdr⟩ := HL.out i hlt
          obtain ⟨b, off, rfl, hbw, HA⟩ := HC.out (by omega)
          obtain ⟨ca, cc, hR0⟩ := HA.out i c hcs
          have hR := hR0.on hbw HW.out
          clear hR0
          have hro := HRU.out c (List.mem_of_getElem? hcs)
          have HF1 := HFT c hro ca cc
          have HD1 := HLT c hro ca cc
          have HIC := hide hR.conds
          have HG2 := hide (show decideFrom kk vv ⟨ak, ae⟩ rs = if fitsB c kk && leadsB c vv then c.act else decideFrom kk vv ⟨ak, ae⟩ (rs.drop (i + 1)) by rw [HG.out, hdr, decideFrom])
          rw [← HKK.out] at HF1
          rw [← HVV.out] at HD1
          obtain ⟨fz, hfz⟩ : ∃ z, z = fitsB c kk := ⟨_, rfl⟩
          obtain ⟨dz, hdz⟩ : ∃ z, z = leadsB c vv := ⟨_, rfl⟩
          rw [← hfz] at HF1 HG2
          rw [← hdz] at HD1 HG2
          obtain ⟨p0, p1, p2, p3, _, _, _, _⟩ := hR
          clear hfz hdz hro hcs hdr HG
          obtain ⟨nr, cs, ⟨rk, re⟩⟩ := c
          unfold ruleV at HF1 HD1
          simp only at p0 p1 p2 p3 HF1 HD1 HG2 HIC
          simp only [HKA.out] at HF1
          have g0 := cell_regrown (keep_cell HB.out X0)
          have z0 := cell_regrown (keep_cell HVW.out y0)
          have z1 := cell_regrown (keep_cell HVW.out y1)
          have z2 := cell_regrown (keep_cell HVW.out y2)
          have z3 := cell_regrown (keep_cell HVW.out y3)
          have z4 := cell_regrown (keep_cell HVW.out y4)
          have z5 := cell_regrown (keep_cell HVW.out y5)
          have w0 := cell_regrown (keep_cell HVW.out vu0)
          have w1 := cell_regrown (keep_cell HVW.out vu1)
          have w2 := cell_regrown (keep_cell HVW.out vu2)
          have w3 := cell_regrown (keep_cell HVW.out vu3)
          have w4 := cell_regrown (keep_cell HVW.out vu4)
          have w5 := cell_regrown (keep_cell HVW.out vu5)
          have w6 := cell_regrown (keep_cell HVW.out vu6)
          have w7 := cell_regrown (keep_cell HVW.out vu7)
          have w8 := cell_regrown (keep_cell HVW.out vu8)
          have w9 := cell_regrown (keep_cell HVW.out vu9)
          have w10 := cell_regrown (keep_cell HVW.out vu10)
          have w11 := cell_regrown (keep_cell HVW.out vu11)
          have r0 := cell_regrown p0
          have r1 := cell_regrown p1
          have r2 := cell_regrown p2
          have r3 := cell_regrown p3
          have cF : ∀ d os, Calls Tryz.prog 79 #[.agg #[.int .i64 nr, .slice ca cs.length cc, .int .i64 rk, .int .i64 re], .agg #[.int .u32 3221225534, .int .u32 kn, .int .u64 b0, .int .u64 b1, .int .u64 b2, .int .u64 b3]] (grow (redrawn wr d) os) fun e w'' => e = .returned (.bool fz) ∧ ∃ p : Regrown, w'' = grow (redrawn wr p.d) p.os := fun d os => Calls.regrown_of (HF1 _ (HIC.out.on (below_regrown _ _ _)))
          have cL : ∀ d os, Calls Tryz.prog 86 #[.agg #[.int .i64 nr, .slice ca cs.length cc, .int .i64 rk, .int .i64 re], .agg #[.string pa0, .int .u32 ip0, .int .i64 po0, .string pa1, .int .u32 ip1, .int .i64 po1, .string pa2, .int .u32 ip2, .int .i64 po2, .string pa3, .int .u32 ip3, .int .i64 po3]] (grow (redrawn wr d) os) fun e w'' => e = .returned (.bool dz) ∧ ∃ p : Regrown, w'' = grow (redrawn wr p.d) p.os := fun d os => Calls.regrown_of (HD1 _ (HIC.out.on (below_regrown _ _ _)))
          have i5 : (0 : Int) ≤ i := by omega
          have i6 : (i : Int) < n := by omega
          clear HF1 HD1 y0 y1 y2 y3 y4 y5 vu0 vu1 vu2 vu3 vu4 vu5 vu6 vu7 vu8 vu9 vu10 vu11 x0 x1 x2 X1 X2 Y0 p0 p1
          go_wp2
          refine wp_region_quiet_below (by kernel_rfl) (by kernel_rfl) ?_
          cases fz with
          | false =>
            rw [if_neg (by simp)] at HG2
            repeat (go_big_quiet_step (first | (go_at_call 79; exact cF _ _) | (go_at_call 86; exact cL _ _)))
            refine wpQuiet_nil ?_
            intro _ hw'
            obtain ⟨⟨dq, osq⟩, hw''⟩ := hw'
            subst hw''
            clear w0 w1 w2 w3 w4 w5 w6 w7 w8 w9 w10 w11 z0 z1 z2 z3 z4 z5 cF cL
            go_wp2
            go_round
            case rel => exact ⟨i + 1, by omega, by go_num, HG2, hide (below_next HB.out (below_regrown _ _ _))⟩
            case measure => simp [intOf]; omega
          | true =>
            cases dz with
            | false =>
              rw [if_neg (by simp)] at HG2
              repeat (go_big_quiet_step (first | (go_at_call 79; exact cF _ _) | (go_at_call 86; exact cL _ _)))
              refine wpQuiet_nil ?_
              intro _ hw'
              obtain ⟨⟨dq, osq⟩, hw''⟩ := hw'
              subst hw''
              clear w0 w1 w2 w3 w4 w5 w6 w7 w8 w9 w10 w11 z0 z1 z2 z3 z4 z5 cF cL
              go_wp2
              go_round
              case rel => exact ⟨i + 1, by omega, by go_num, HG2, hide (below_next HB.out (below_regrown _ _ _))⟩
              case measure => simp [intOf]; omega
            | true =>
              rw [if_pos (by simp)] at HG2
              repeat (go_big_quiet_step (first | (go_at_call 79; exact cF _ _) | (go_at_call 86; exact cL _ _)))
              refine wpQuiet_nil ?_
              intro _ hw'
              obtain ⟨⟨dq, osq⟩, hw''⟩ := hw'
              subst hw''
              clear w0 w1 w2 w3 w4 w5 w6 w7 w8 w9 w10 w11 z0 z1 z2 z3 z4 z5 cF cL
              have hr3 := ((below_regrown wr dq osq).block _ (Array.getElem?_eq_some_iff.1 hr2).1).trans hr2
              go_wp2_with (refine wpList_store_row rfl 24 _ _ rfl (w.heap.size + 3) #[.int .i64 rk, .int .i64 re] rfl rfl 24 _ hr3 size_action rfl (one2 _ _) ?_)
              refine bodyPost_ret (v := .tuple #[.agg #[.int .i64 rk, .int .i64 re], .nilIface]) (results_act rfl _ _ (w.heap.size + 3) #[.int .i64 rk, .int .i64 re] _ rfl rfl rfl (setRow_heap _ _ _ _ _ _ hr3)) rfl ⟨?_, below_setRow (below_next HW.out (below_regrown _ _ _)) (by omega) _⟩
              rw [HV.out, HJ.out, HG2.out]
              rfl
        · obtain rfl : i = n := by omega
          have HG2 := hide (show decideFrom kk vv ⟨ak, ae⟩ rs = ⟨ak, ae⟩ by
            rw [HG.out, List.drop_eq_nil_of_le (by rw [HN.out]; exact Nat.le_refl _), decideFrom])
          have g1 := keep_cell HB.out X1
          have g2 := keep_cell HB.out X2
          go_wp2_with (refine wpList_store_row rfl 24 _ _ rfl (w.heap.size + 3) #[.int .i64 ak, .int .i64 ae] rfl rfl 24 _ hr2 size_action rfl (one2 _ _) ?_)
          refine bodyPost_ret (v := .tuple #[.agg #[.int .i64 ak, .int .i64 ae], .nilIface]) (results_act rfl _ _ (w.heap.size + 3) #[.int .i64 ak, .int .i64 ae] _ rfl rfl rfl (setRow_heap _ _ _ _ _ _ hr2)) rfl ⟨?_, below_setRow HW.out (by omega) _⟩
          rw [HV.out, HJ.out, HG2.out]
          rfl
    · have HJ := hide (show decideR ⟨rs, ⟨ak, ae⟩⟩ ⟨kar, kn, b0, b1, b2, b3⟩ ⟨⟨pa0, ip0, po0⟩, ⟨pa1, ip1, po1⟩, ⟨pa2, ip2, po2⟩, ⟨pa3, ip3, po3⟩⟩ = ⟨3, 0⟩ from if_neg ha)
      have ha' : ¬ (kar : Int) = 3221225534 := by omega
      clear ha vu0 vu1 vu2 vu3 vu4 vu5 vu6 vu7 vu8 vu9 vu10 vu11
      go_enter Tryz.func57, Tryz.ntmps57
      go_wp2_with (first
        | (go_at_call 19; rw [← hV]; clear hV; refine HCK.mono ?_; rintro e X ⟨rfl, hX⟩; have Y0 := keep_cell hX y0; have hr2 : X.heap[w.heap.size + 3]? = some (.cells #[.int .i64 0, .int .i64 0] 24 (0, 0)) := (hX.block _ (by omega)).trans hz)
        | (refine wpList_store_row rfl 24 _ _ rfl (w.heap.size + 3) #[.int .i64 3, .int .i64 0] rfl rfl 24 _ hr2 size_action rfl (one2 _ _) ?_))
      refine bodyPost_ret (v := .tuple #[.agg #[.int .i64 3, .int .i64 0], .nilIface]) (results_act rfl _ _ (w.heap.size + 3) #[.int .i64 3, .int .i64 0] _ rfl rfl rfl (setRow_heap _ _ _ _ _ _ hr2)) rfl ⟨?_, below_setRow (below_next hB hX) (by omega) _⟩
      rw [HV.out, HJ.out]
      rfl
  · have HV := hide (show decideV p k v = .tuple #[actV ⟨0, 0⟩, .iface 82 (.int .i64 (polF p : Nat))] by unfold decideV; rw [if_neg hf, errV_pos hf])
    rw [errV_pos hf] at HCK
    clear hf hpk hk hv HC
    unfold polV klV klC vsV vsC at *
    have x0 := hx 0
    have x1 := hx 1
    have x2 := hx 2
    simp only [List.getElem?_toArray, List.getElem?_cons_zero, List.getElem?_cons_succ] at x0 x1 x2
    clear hx hy hu
    go_enter Tryz.func57, Tryz.ntmps57
    go_wp2_with (first
      | (go_at_call 19; rw [← hV]; clear hV; refine HCK.mono ?_; rintro e X ⟨rfl, hX⟩; have hr2 : X.heap[w.heap.size + 3]? = some (.cells #[.int .i64 0, .int .i64 0] 24 (0, 0)) := (hX.block _ (by omega)).trans hz)
      | (refine wpList_store_row rfl 24 _ _ rfl (w.heap.size + 3) #[.int .i64 0, .int .i64 0] rfl rfl 24 _ hr2 size_action rfl (one2 _ _) ?_))
    refine bodyPost_ret (v := .tuple #[.agg #[.int .i64 0, .int .i64 0], .iface 82 (.int .i64 (polF p : Nat))]) (results_act rfl _ _ (w.heap.size + 3) #[.int .i64 0, .int .i64 0] _ rfl rfl rfl (setRow_heap _ _ _ _ _ _ hr2)) rfl ⟨?_, below_setRow (below_next hB hX) (by omega) _⟩
    rw [HV.out]
    rfl
end Go.Proofs.YtklibmijiecbfaaGreat

/- What judging by registers tells of deciding. -/
namespace Go.Proofs.YtklibmijiecbfaaGreat

theorem act_kind {a : ACT} (h : actF a = 0) : a.kind ≠ 4 := by
  rcases act_cases h with rfl | rfl | ⟨n, _, _, rfl⟩ <;> simp
theorem num_lead {c : CD} (h : numB c = true) (v : VS) : leadB v c = true := by
  unfold numB kindOp at h
  unfold leadB
  split at h
  · cases h
  · rename_i h8
    rw [if_neg h8]
    split at h
    · cases h
    · rename_i h9
      rw [if_neg h9]
theorem flat_leads {r : RL} (h : deepB r = false) (v : VS) : leadsB r v = true := by
  unfold leadsB
  rw [List.all_eq_true]
  intro c hc
  apply num_lead
  unfold deepB at h
  rw [List.any_eq_false] at h
  have := h c hc
  simpa using this
theorem decide_kind (k : KL) (v : VS) (els : ACT) (he : actF els = 0) : ∀ rs : List RL, (∀ r ∈ rs, actF r.act = 0) → (decideFrom k v els rs).kind ≠ 4
  | [], _ => act_kind he
  | r :: t, h => by
    rw [decideFrom]
    split
    · exact act_kind (h r (List.mem_cons_self ..))
    · exact decide_kind k v els he t fun x hx => h x (List.mem_cons_of_mem _ hx)
theorem judge_decide (k : KL) (v : VS) (els : ACT) (he : actF els = 0) : ∀ (rs : List RL) (i : Nat), (∀ r ∈ rs, actF r.act = 0) →
    ((judgeFrom k els rs i).1.kind = 4 ∧ i ≤ (judgeFrom k els rs i).2 ∧ (judgeFrom k els rs i).2 < i + rs.length ∧ decideFrom k v els (rs.drop ((judgeFrom k els rs i).2 - i)) = decideFrom k v els rs) ∨
    ((judgeFrom k els rs i).1.kind ≠ 4 ∧ (judgeFrom k els rs i).2 = 0 ∧ decideFrom k v els rs = (judgeFrom k els rs i).1)
  | [], i, _ => .inr ⟨act_kind he, rfl, rfl⟩
  | r :: t, i, h => by
    rw [judgeFrom]
    by_cases hf : fitsB r k = true
    · rw [if_pos hf]
      cases hd : deepB r with
      | true => exact .inl ⟨rfl, Nat.le_refl _, by simp, by simp⟩
      | false =>
        refine .inr ⟨act_kind (h r (List.mem_cons_self ..)), rfl, ?_⟩
        rw [decideFrom, hf, flat_leads hd]
        rfl
    · rw [if_neg hf]
      have hd : decideFrom k v els (r :: t) = decideFrom k v els t := by rw [decideFrom, Bool.eq_false_iff.2 hf]; rfl
      rw [hd]
      rcases judge_decide k v els he t (i + 1) (fun x hx => h x (List.mem_cons_of_mem _ hx)) with ⟨a, b, c, d⟩ | ⟨a, b, c⟩
      · refine .inl ⟨a, by omega, by rw [List.length_cons]; omega, ?_⟩
        rw [show (judgeFrom k els t (i + 1)).2 - i = ((judgeFrom k els t (i + 1)).2 - (i + 1)) + 1 by omega, List.drop_succ_cons]
        exact d
      · exact .inr ⟨a, b, c⟩
/-- What the whole says of a right policy. -/
theorem top_laws {p : POL} (h : PolOk p) (k : KL) (v : VS) :
    ((judgeR p k).1.kind = 4 ∧ (judgeR p k).2 < p.rules.length ∧ (decideR p k v).kind ≠ 4 ∧ decideR ⟨p.rules.drop (judgeR p k).2, p.els⟩ k v = decideR p k v) ∨
    ((judgeR p k).1.kind ≠ 4 ∧ (judgeR p k).2 = 0 ∧ decideR p k v = (judgeR p k).1) := by
  unfold judgeR decideR
  by_cases ha : k.arch = 3221225534
  · simp only [if_pos ha]
    have hr : ∀ r ∈ p.rules, actF r.act = 0 := fun r hr => (h.rules r hr).act
    rcases judge_decide k v p.els h.els p.rules 0 hr with ⟨a, _, c, d⟩ | ⟨a, b, c⟩
    · rw [Nat.sub_zero] at d
      exact .inl ⟨a, by omega, decide_kind k v p.els h.els p.rules hr, d⟩
    · exact .inr ⟨a, b, c⟩
  · simp only [if_neg ha]
    exact .inr (by simp)
end Go.Proofs.YtklibmijiecbfaaGreat
