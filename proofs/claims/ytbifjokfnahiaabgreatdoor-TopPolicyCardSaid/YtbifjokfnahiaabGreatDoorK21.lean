/- policy.Judge. -/
import Derived.Test.YtbifjokfnahiaabGreatDoorK20
namespace Go.Proofs.YtbifjokfnahiaabGreatDoor
open Go.RowKit Go.Sort

def judgeFrom (k : KL) (els : ACT) : List RL → Nat → ACT × Nat
  | [], _ => (els, 0)
  | r :: t, i => if fitsB r k then (if deepB r then (⟨4, 0⟩, i) else (r.act, 0)) else judgeFrom k els t (i + 1)
def judgeR (p : POL) (k : KL) : ACT × Nat := if k.arch = 3221225534 then judgeFrom k p.els p.rules 0 else (⟨3, 0⟩, 0)
def decideFrom (k : KL) (v : VS) (els : ACT) : List RL → ACT
  | [] => els
  | r :: t => if fitsB r k && leadsB r v then r.act else decideFrom k v els t
def decideR (p : POL) (k : KL) (v : VS) : ACT := if k.arch = 3221225534 then decideFrom k v p.els p.rules else ⟨3, 0⟩
def verC (a : ACT) (i : Nat) : Array Value := #[.int .i64 a.kind, .int .i64 a.errno, .int .i64 i]
def verV (x : ACT × Nat) : Value := .agg (verC x.1 x.2)
/-- What Judge hands back. -/
def judgeV (p : POL) (k : KL) : Value := .tuple #[if polF p = 0 then verV (judgeR p k) else verV (⟨0, 0⟩, 0), errV (polF p)]
def decideV (p : POL) (k : KL) (v : VS) : Value := .tuple #[if polF p = 0 then actV (decideR p k v) else actV ⟨0, 0⟩, errV (polF p)]
theorem size_ver : (Tryz.prog.info? 46).map (·.size) = some 3 := by kernel_rfl
theorem verC_one (a : ACT) (i : Nat) : (verC a i).all (·.oneCell') = true := by simp [verC, Value.oneCell']
theorem results_ver {fn : Func} {p u : Tmp} (h : fn.results = #[.cell p 46, .tmp u]) (tmps : Array Value) (w : World) (g : Nat) (cs : Array Value) (v : Value) (hs : cs.size = 3)
    (hp : tmps.getD p undef = .pointer (some ⟨g, 0, none⟩)) (hv : tmps.getD u undef = v) (hg : w.heap[g]? = some (.cells cs 46 (0, 0))) :
    (results fn tmps).run Tryz.prog w = .ok (.tuple #[.agg cs, v]) w := by
  rw [results_cell_tmp h, hp, hv]
  have hl := run_loadVar_row (P := Tryz.prog) w g 46 46 cs (0, 0) _ hg Tryz.underlying46 rfl (by rw [hs]; exact size_ver)
  simp [asAddr, hl]
theorem results_act {fn : Func} {p u : Tmp} (h : fn.results = #[.cell p 24, .tmp u]) (tmps : Array Value) (w : World) (g : Nat) (cs : Array Value) (v : Value) (hs : cs.size = 2)
    (hp : tmps.getD p undef = .pointer (some ⟨g, 0, none⟩)) (hv : tmps.getD u undef = v) (hg : w.heap[g]? = some (.cells cs 24 (0, 0))) :
    (results fn tmps).run Tryz.prog w = .ok (.tuple #[.agg cs, v]) w := by
  rw [results_cell_tmp h, hp, hv]
  have hl := run_loadVar_row (P := Tryz.prog) w g 24 24 cs (0, 0) _ hg Tryz.underlying24 rfl (by rw [hs]; exact size_action)
  simp [asAddr, hl]
theorem three_box (w : World) (x y z : Array Value) (tx ty tz : TypeId) : ∃ V, V = ((w.alloc (.cells x tx)).alloc (.cells y ty)).alloc (.cells z tz) ∧ Below w.heap.size w V ∧ V.heap.size = w.heap.size + 3 ∧ (∀ j : Nat, V.cell? ⟨w.heap.size, j, none⟩ = x[j]?) ∧ (∀ j : Nat, V.cell? ⟨w.heap.size + 1, j, none⟩ = y[j]?) ∧ V.heap[w.heap.size + 2]? = some (.cells z tz (0, 0)) := by
  obtain ⟨U, hU, hb, h1, h2⟩ := two_box w x y tx ty
  have hs : U.heap.size = w.heap.size + 2 := by rw [hU, World.size_alloc, World.size_alloc]
  refine ⟨U.alloc (.cells z tz), by rw [hU], below_next hb (box_below _ _), by rw [World.size_alloc, hs], fun j => ?_, fun j => ?_, ?_⟩
  · rw [← h1 j]; exact (bcell (box_below U _)).1 _ j (by omega)
  · rw [← h2 j]; exact (bcell (box_below U _)).1 _ j (by omega)
  · rw [← hs]; exact heap_alloc_new _ _

theorem drop_next {α : Type} {cs : List α} {i : Nat} (h : i < cs.length) : ∃ c, cs[i]? = some c ∧ cs.drop i = c :: cs.drop (i + 1) :=
  ⟨cs[i], List.getElem?_eq_getElem h, (List.getElem_cons_drop h).symm⟩

set_option maxHeartbeats 1000000 in
set_option maxRecDepth 100000 in
theorem judge_any (p : POL) (oa : Option Addr) (cap : Nat) (k : KL) (hk : KlOk k) (w : World) (hp : IsPol oa cap p w) :
    Calls Tryz.prog 9 #[polV p oa cap, klV k] w fun e w' => e = .returned (judgeV p k) ∧ Below w.heap.size w w' := by
  obtain ⟨n, hn⟩ : ∃ n, n = p.rules.length := ⟨_, rfl⟩
  obtain ⟨V, hV, hB, hVs, hx, hy, hz⟩ := three_box w #[.slice oa p.rules.length cap, .int .i64 p.els.kind, .int .i64 p.els.errno] (klC k) #[.int .i64 0, .int .i64 0, .int .i64 0] 26 31 46
  have HCK := pcheck_any p oa cap V (hp.on hB)
  have HC := hide (pol_parts hp n hn)
  have hmax : n ≤ 9223372036854775807 := by have h1 := hp.le; have h2 := hp.cap; unfold maxLen at h2; omega
  have hpk := hp.ok
  clear hp
  unfold klC at hV hy
  by_cases hf : polF p = 0
  · have hok := pol_ok hf hpk
    have HV := hide (show judgeV p k = .tuple #[verV (judgeR p k), .nilIface] by unfold judgeV; rw [if_pos hf, hf]; rfl)
    rw [hf, errV_zero] at HCK
    have HRU := hide hok.rules
    have h12 : n ≤ 12 := by have := hok.few; omega
    have HFT := fun r hr oa cap X hc => fits_any r hr oa cap k hk X hc
    have HKL := hide hk
    clear hf hpk hok hk
    obtain ⟨rs, ⟨ak, ae⟩⟩ := p
    have HL := hide (show ∀ i, i < n → ∃ c, rs[i]? = some c ∧ rs.drop i = c :: rs.drop (i + 1) from fun i h => drop_next (by simp only at hn; omega))
    unfold polV klV klC at *
    simp only at *
    rw [← hn] at hV hx HCK ⊢
    have HN := hide hn
    clear hn
    obtain ⟨kar, kn, b0, b1, b2, b3⟩ := k
    simp only at *
    have x0 := hx 0
    have x1 := hx 1
    have x2 := hx 2
    have y0 := hy 0
    have y1 := hy 1
    have y2 := hy 2
    have y3 := hy 3
    have y4 := hy 4
    have y5 := hy 5
    simp only [List.getElem?_toArray, List.getElem?_cons_zero, List.getElem?_cons_succ] at x0 x1 x2 y0 y1 y2 y3 y4 y5
    clear hx hy
    by_cases ha : kar = 3221225534
    · have HJ := hide (show judgeR ⟨rs, ⟨ak, ae⟩⟩ ⟨kar, kn, b0, b1, b2, b3⟩ = judgeFrom ⟨kar, kn, b0, b1, b2, b3⟩ ⟨ak, ae⟩ rs 0 from if_pos ha)
      have ha' : (kar : Int) = 3221225534 := by omega
      rw [ha'] at hV y0 ⊢
      have HKA := hide ha'
      clear ha ha'
      go_enter Tryz.func9, Tryz.ntmps9
      go_wp2_with (go_at_call 6; rw [← hV]; clear hV; refine HCK.mono ?_; rintro e X ⟨rfl, hX⟩; have X0 := keep_cell hX x0; have X1 := keep_cell hX x1; have X2 := keep_cell hX x2; have Y0 := keep_cell hX y0; have Y1 := keep_cell hX y1; have Y2 := keep_cell hX y2; have Y3 := keep_cell hX y3; have Y4 := keep_cell hX y4; have Y5 := keep_cell hX y5)
      go_loopw [23] (fun I w' => ∃ i : Nat, i ≤ n ∧ I = .int .i64 i ∧ Hid (judgeFrom ⟨kar, kn, b0, b1, b2, b3⟩ ⟨ak, ae⟩ rs 0 = judgeFrom ⟨kar, kn, b0, b1, b2, b3⟩ ⟨ak, ae⟩ (rs.drop i) i) ∧ Hid (Below X.heap.size X w')) (fun I _ => n - (intOf I).toNat)
      case atStart => exact ⟨0, by omega, rfl, hide rfl, hide (Below.refl _ _)⟩
      case round =>
        obtain ⟨i, hi, rfl, HG, HB⟩ := hrel
        have HW := hide (below_next (below_next hB hX) HB.out)
        have HVW := hide (below_next hX HB.out)
        have hsw : w.heap.size + 2 < V.heap.size := by omega
        by_cases hlt : i < n
        · obtain ⟨c, hcs, hdr⟩ := HL.out i hlt
          obtain ⟨b, off, rfl, hbw, HA⟩ := HC.out (by omega)
          obtain ⟨ca, cc, hR0⟩ := HA.out i c hcs
          have hR := hR0.on hbw HW.out
          clear hR0
          have hro := HRU.out c (List.mem_of_getElem? hcs)
          have HF1 := HFT c hro ca cc
          have HD1 := fun X hc => isDeep_any c hro.few ca cc X hc
          have HIC := hide hR.conds
          have HG2 := hide (show judgeFrom ⟨kar, kn, b0, b1, b2, b3⟩ ⟨ak, ae⟩ rs 0 = if fitsB c ⟨kar, kn, b0, b1, b2, b3⟩ then (if deepB c then (⟨4, 0⟩, i) else (c.act, 0)) else judgeFrom ⟨kar, kn, b0, b1, b2, b3⟩ ⟨ak, ae⟩ (rs.drop (i + 1)) (i + 1) by rw [HG.out, hdr, judgeFrom])
          obtain ⟨fz, hfz⟩ : ∃ z, z = fitsB c ⟨kar, kn, b0, b1, b2, b3⟩ := ⟨_, rfl⟩
          obtain ⟨dz, hdz⟩ : ∃ z, z = deepB c := ⟨_, rfl⟩
          rw [← hfz] at HF1 HG2
          rw [← hdz] at HD1 HG2
          obtain ⟨p0, p1, p2, p3, _, _, _, _⟩ := hR
          clear hfz hdz hro hcs hdr HG
          obtain ⟨nr, cs, ⟨rk, re⟩⟩ := c
          unfold ruleV at HF1 HD1
          simp only at p0 p1 p2 p3 HF1 HD1 HG2 HIC
          simp only [HKA.out] at HF1
          have g0 := keep_cell HB.out X0
          have z0 := keep_cell HB.out Y0
          have z1 := keep_cell HB.out Y1
          have z2 := keep_cell HB.out Y2
          have z3 := keep_cell HB.out Y3
          have z4 := keep_cell HB.out Y4
          have z5 := keep_cell HB.out Y5
          have lw : w.heap.size + 1 < wr.heap.size := block_lt_of_cell z0
          cases fz with
          | false =>
            rw [if_neg (by decide)] at HG2
            go_wp2_with (go_at_call 17; refine (HF1 _ (HIC.out.on (box_below _ _))).mono ?_; rintro e w1 ⟨rfl, hb1⟩)
            go_round
            case rel => exact ⟨i + 1, by omega, by go_num, HG2, hide (below_next HB.out (below_next (box_below _ _) hb1))⟩
            case measure => simp [intOf]; omega
          | true =>
            rw [if_pos rfl] at HG2
            obtain ⟨W1, hW1, hW1b, _, hW1c⟩ := one_box wr #[.int .i64 nr, .slice ca cs.length cc, .int .i64 rk, .int .i64 re] 56
            have r0 := hW1c 0
            have r1 := hW1c 1
            have r2 := hW1c 2
            have r3 := hW1c 3
            simp only [List.getElem?_toArray, List.getElem?_cons_zero, List.getElem?_cons_succ] at r0 r1 r2 r3
            clear hW1c
            cases dz with
            | true =>
              rw [if_pos rfl] at HG2
              go_wp2_with (first
                | (go_at_call 17; rw [← hW1]; refine (HF1 _ (HIC.out.on hW1b)).mono ?_; rintro e w1 ⟨rfl, hb1⟩; have s0 := keep_cell hb1 r0; have s1 := keep_cell hb1 r1; have s2 := keep_cell hb1 r2; have s3 := keep_cell hb1 r3; have HB1 := hide hb1; clear hb1)
                | (go_at_call 18; refine (HD1 _ ((HIC.out.on hW1b).on HB1.out)).mono ?_; rintro e w2 ⟨rfl, hb2⟩; have hr2 : w2.heap[w.heap.size + 2]? = some (.cells #[.int .i64 0, .int .i64 0, .int .i64 0] 46 (0, 0)) := ((below_next HVW.out (below_next hW1b (below_next HB1.out hb2))).block _ hsw).trans hz)
                | (refine wpList_store_row rfl 46 _ _ rfl (w.heap.size + 2) (verC ⟨4, 0⟩ i) rfl rfl 46 _ hr2 size_ver rfl (verC_one _ _) ?_))
              refine bodyPost_ret (v := .tuple #[.agg (verC ⟨4, 0⟩ i), .nilIface]) (results_ver rfl _ _ (w.heap.size + 2) (verC ⟨4, 0⟩ i) _ rfl rfl rfl (setRow_heap _ _ _ _ _ _ hr2)) rfl ⟨?_, below_setRow (below_next HW.out (below_next hW1b (below_next HB1.out hb2))) (by omega) _⟩
              rw [HV.out, HJ.out, HG2.out]
              rfl
            | false =>
              rw [if_neg (by decide)] at HG2
              go_wp2_with (first
                | (go_at_call 17; rw [← hW1]; refine (HF1 _ (HIC.out.on hW1b)).mono ?_; rintro e w1 ⟨rfl, hb1⟩; have s0 := keep_cell hb1 r0; have s1 := keep_cell hb1 r1; have s2 := keep_cell hb1 r2; have s3 := keep_cell hb1 r3; have HB1 := hide hb1; clear hb1)
                | (go_at_call 18; refine (HD1 _ ((HIC.out.on hW1b).on HB1.out)).mono ?_; rintro e w2 ⟨rfl, hb2⟩; have t2 := keep_cell hb2 s2; have t3 := keep_cell hb2 s3; have hr2 : w2.heap[w.heap.size + 2]? = some (.cells #[.int .i64 0, .int .i64 0, .int .i64 0] 46 (0, 0)) := ((below_next HVW.out (below_next hW1b (below_next HB1.out hb2))).block _ hsw).trans hz)
                | (refine wpList_store_row rfl 46 _ _ rfl (w.heap.size + 2) (verC ⟨rk, re⟩ 0) rfl rfl 46 _ hr2 size_ver rfl (verC_one _ _) ?_))
              refine bodyPost_ret (v := .tuple #[.agg (verC ⟨rk, re⟩ 0), .nilIface]) (results_ver rfl _ _ (w.heap.size + 2) (verC ⟨rk, re⟩ 0) _ rfl rfl rfl (setRow_heap _ _ _ _ _ _ hr2)) rfl ⟨?_, below_setRow (below_next HW.out (below_next hW1b (below_next HB1.out hb2))) (by omega) _⟩
              rw [HV.out, HJ.out, HG2.out]
              rfl
        · obtain rfl : i = n := by omega
          have HG2 := hide (show judgeFrom ⟨kar, kn, b0, b1, b2, b3⟩ ⟨ak, ae⟩ rs 0 = (⟨ak, ae⟩, 0) by
            rw [HG.out, List.drop_eq_nil_of_le (by rw [HN.out]; exact Nat.le_refl _), judgeFrom])
          have g1 := keep_cell HB.out X1
          have g2 := keep_cell HB.out X2
          have hr2 : wr.heap[w.heap.size + 2]? = some (.cells #[.int .i64 0, .int .i64 0, .int .i64 0] 46 (0, 0)) := (HVW.out.block _ hsw).trans hz
          go_wp2_with (refine wpList_store_row rfl 46 _ _ rfl (w.heap.size + 2) (verC ⟨ak, ae⟩ 0) rfl rfl 46 _ hr2 size_ver rfl (verC_one _ _) ?_)
          refine bodyPost_ret (v := .tuple #[.agg (verC ⟨ak, ae⟩ 0), .nilIface]) (results_ver rfl _ _ (w.heap.size + 2) (verC ⟨ak, ae⟩ 0) _ rfl rfl rfl (setRow_heap _ _ _ _ _ _ hr2)) rfl ⟨?_, below_setRow HW.out (by omega) _⟩
          rw [HV.out, HJ.out, HG2.out]
          rfl
    · have HJ := hide (show judgeR ⟨rs, ⟨ak, ae⟩⟩ ⟨kar, kn, b0, b1, b2, b3⟩ = (⟨3, 0⟩, 0) from if_neg ha)
      have ha' : ¬ (kar : Int) = 3221225534 := by omega
      clear ha
      go_enter Tryz.func9, Tryz.ntmps9
      go_wp2_with (first
        | (go_at_call 6; rw [← hV]; clear hV; refine HCK.mono ?_; rintro e X ⟨rfl, hX⟩; have Y0 := keep_cell hX y0; have hr2 : X.heap[w.heap.size + 2]? = some (.cells #[.int .i64 0, .int .i64 0, .int .i64 0] 46 (0, 0)) := (hX.block _ (by omega)).trans hz)
        | (refine wpList_store_row rfl 46 _ _ rfl (w.heap.size + 2) (verC ⟨3, 0⟩ 0) rfl rfl 46 _ hr2 size_ver rfl (verC_one _ _) ?_))
      refine bodyPost_ret (v := .tuple #[.agg (verC ⟨3, 0⟩ 0), .nilIface]) (results_ver rfl _ _ (w.heap.size + 2) (verC ⟨3, 0⟩ 0) _ rfl rfl rfl (setRow_heap _ _ _ _ _ _ hr2)) rfl ⟨?_, below_setRow (below_next hB hX) (by omega) _⟩
      rw [HV.out, HJ.out]
      rfl
  · have HV := hide (show judgeV p k = .tuple #[verV (⟨0, 0⟩, 0), .iface 61 (.int .i64 (polF p : Nat))] by unfold judgeV; rw [if_neg hf, errV_pos hf])
    rw [errV_pos hf] at HCK
    clear hf hpk hk HC
    unfold polV klV klC at *
    have x0 := hx 0
    have x1 := hx 1
    have x2 := hx 2
    simp only [List.getElem?_toArray, List.getElem?_cons_zero, List.getElem?_cons_succ] at x0 x1 x2
    clear hx hy
    go_enter Tryz.func9, Tryz.ntmps9
    go_wp2_with (first
      | (go_at_call 6; rw [← hV]; clear hV; refine HCK.mono ?_; rintro e X ⟨rfl, hX⟩; have hr2 : X.heap[w.heap.size + 2]? = some (.cells #[.int .i64 0, .int .i64 0, .int .i64 0] 46 (0, 0)) := (hX.block _ (by omega)).trans hz)
      | (refine wpList_store_row rfl 46 _ _ rfl (w.heap.size + 2) (verC ⟨0, 0⟩ 0) rfl rfl 46 _ hr2 size_ver rfl (verC_one _ _) ?_))
    refine bodyPost_ret (v := .tuple #[.agg (verC ⟨0, 0⟩ 0), .iface 61 (.int .i64 (polF p : Nat))]) (results_ver rfl _ _ (w.heap.size + 2) (verC ⟨0, 0⟩ 0) _ rfl rfl rfl (setRow_heap _ _ _ _ _ _ hr2)) rfl ⟨?_, below_setRow (below_next hB hX) (by omega) _⟩
    rw [HV.out]
    rfl
end Go.Proofs.YtbifjokfnahiaabGreatDoor

/- policy.Decide. -/
namespace Go.Proofs.YtbifjokfnahiaabGreatDoor
open Go.RowKit Go.Sort

theorem four_box (w : World) (x y z u : Array Value) (tx ty tz tu : TypeId) : ∃ V, V = (((w.alloc (.cells x tx)).alloc (.cells y ty)).alloc (.cells z tz)).alloc (.cells u tu) ∧ Below w.heap.size w V ∧ V.heap.size = w.heap.size + 4 ∧ (∀ j : Nat, V.cell? ⟨w.heap.size, j, none⟩ = x[j]?) ∧ (∀ j : Nat, V.cell? ⟨w.heap.size + 1, j, none⟩ = y[j]?) ∧ (∀ j : Nat, V.cell? ⟨w.heap.size + 2, j, none⟩ = z[j]?) ∧ V.heap[w.heap.size + 3]? = some (.cells u tu (0, 0)) := by
  obtain ⟨U, hU, hb, hs, h1, h2, h3⟩ := three_box w x y z tx ty tz
  refine ⟨U.alloc (.cells u tu), by rw [hU], below_next hb (box_below _ _), by rw [World.size_alloc, hs], fun j => ?_, fun j => ?_, fun j => ?_, ?_⟩
  · rw [← h1 j]; exact (bcell (box_below U _)).1 _ j (by omega)
  · rw [← h2 j]; exact (bcell (box_below U _)).1 _ j (by omega)
  · rw [(bcell (box_below U _)).1 _ j (by omega)]; exact cell_of_row _ _ j _ _ _ h3
  · rw [← hs]; exact heap_alloc_new _ _

set_option maxHeartbeats 2000000 in
set_option maxRecDepth 100000 in
theorem decide_any (p : POL) (oa : Option Addr) (cap : Nat) (k : KL) (hk : KlOk k) (v : VS) (hv : VsOk v) (w : World) (hp : IsPol oa cap p w) :
    Calls Tryz.prog 10 #[polV p oa cap, klV k, vsV v] w fun e w' => e = .returned (decideV p k v) ∧ Below w.heap.size w w' := by
  obtain ⟨n, hn⟩ : ∃ n, n = p.rules.length := ⟨_, rfl⟩
  obtain ⟨V, hV, hB, hVs, hx, hy, hu, hz⟩ := four_box w #[.slice oa p.rules.length cap, .int .i64 p.els.kind, .int .i64 p.els.errno] (klC k) (vsC v) #[.int .i64 0, .int .i64 0] 26 31 35 24
  have HCK := pcheck_any p oa cap V (hp.on hB)
  have HC := hide (pol_parts hp n hn)
  have hmax : n ≤ 9223372036854775807 := by have h1 := hp.le; have h2 := hp.cap; unfold maxLen at h2; omega
  have hpk := hp.ok
  clear hp
  unfold klC at hV hy
  unfold vsC at hV hu
  by_cases hf : polF p = 0
  · have hok := pol_ok hf hpk
    have HV := hide (show decideV p k v = .tuple #[actV (decideR p k v), .nilIface] by unfold decideV; rw [if_pos hf, hf]; rfl)
    rw [hf, errV_zero] at HCK
    have HRU := hide hok.rules
    have h12 : n ≤ 12 := by have := hok.few; omega
    have HFT := fun r hr oa cap X hc => fits_any r hr oa cap k hk X hc
    have HLT := fun r hr oa cap X hc => leads_any r hr oa cap v hv X hc
    clear hf hpk hok hk hv
    obtain ⟨rs, ⟨ak, ae⟩⟩ := p
    have HL := hide (show ∀ i, i < n → ∃ c, rs[i]? = some c ∧ rs.drop i = c :: rs.drop (i + 1) from fun i h => drop_next (by simp only at hn; omega))
    unfold polV klV klC vsV vsC at *
    simp only at *
    rw [← hn] at hV hx HCK ⊢
    have HN := hide hn
    clear hn
    obtain ⟨kar, kn, b0, b1, b2, b3⟩ := k
    obtain ⟨⟨pa0, ip0, po0⟩, ⟨pa1, ip1, po1⟩, ⟨pa2, ip2, po2⟩, ⟨pa3, ip3, po3⟩⟩ := v
    simp only at *
    have x0 := hx 0
    have x1 := hx 1
    have x2 := hx 2
    have y0 := hy 0
    have y1 := hy 1
    have y2 := hy 2
    have y3 := hy 3
    have y4 := hy 4
    have y5 := hy 5
    have vu0 := hu 0
    have vu1 := hu 1
    have vu2 := hu 2
    have vu3 := hu 3
    have vu4 := hu 4
    have vu5 := hu 5
    have vu6 := hu 6
    have vu7 := hu 7
    have vu8 := hu 8
    have vu9 := hu 9
    have vu10 := hu 10
    have vu11 := hu 11
    simp only [List.getElem?_toArray, List.getElem?_cons_zero, List.getElem?_cons_succ] at x0 x1 x2 y0 y1 y2 y3 y4 y5 vu0 vu1 vu2 vu3 vu4 vu5 vu6 vu7 vu8 vu9 vu10 vu11
    clear hx hy hu
    by_cases ha : kar = 3221225534
    · have HJ := hide (show decideR ⟨rs, ⟨ak, ae⟩⟩ ⟨kar, kn, b0, b1, b2, b3⟩ ⟨⟨pa0, ip0, po0⟩, ⟨pa1, ip1, po1⟩, ⟨pa2, ip2, po2⟩, ⟨pa3, ip3, po3⟩⟩ = decideFrom ⟨kar, kn, b0, b1, b2, b3⟩ ⟨⟨pa0, ip0, po0⟩, ⟨pa1, ip1, po1⟩, ⟨pa2, ip2, po2⟩, ⟨pa3, ip3, po3⟩⟩ ⟨ak, ae⟩ rs from if_pos ha)
      have ha' : (kar : Int) = 3221225534 := by omega
      rw [ha'] at hV y0 ⊢
      have HKA := hide ha'
      clear ha ha'
      obtain ⟨kk, hkk⟩ : ∃ k : KL, k = ⟨kar, kn, b0, b1, b2, b3⟩ := ⟨_, rfl⟩
      obtain ⟨vv, hvv⟩ : ∃ v : VS, v = ⟨⟨pa0, ip0, po0⟩, ⟨pa1, ip1, po1⟩, ⟨pa2, ip2, po2⟩, ⟨pa3, ip3, po3⟩⟩ := ⟨_, rfl⟩
      rw [← hkk, ← hvv] at HJ HV ⊢
      have HKK := hide hkk
      have HVV := hide hvv
      clear hkk hvv
      go_enter Tryz.func10, Tryz.ntmps10
      go_wp2_with (go_at_call 6; rw [← hV]; clear hV; refine HCK.mono ?_; rintro e X ⟨rfl, hX⟩; have X0 := keep_cell hX x0; have X1 := keep_cell hX x1; have X2 := keep_cell hX x2; have Y0 := keep_cell hX y0; refine Hid.out ?_)
      refine hide ?_
      go_wp2
      go_loopw [23] (fun I w' => ∃ i : Nat, i ≤ n ∧ I = .int .i64 i ∧ Hid (decideFrom kk vv ⟨ak, ae⟩ rs = decideFrom kk vv ⟨ak, ae⟩ (rs.drop i)) ∧ Hid (Below X.heap.size X w')) (fun I _ => n - (intOf I).toNat)
      case atStart => exact ⟨0, by omega, rfl, hide rfl, hide (Below.refl _ _)⟩
      case round =>
        obtain ⟨i, hi, rfl, HG, HB⟩ := hrel
        have HW := hide (below_next (below_next hB hX) HB.out)
        have HVW := hide (below_next hX HB.out)
        have hsw : w.heap.size + 3 < V.heap.size := by omega
        have hr2 : wr.heap[w.heap.size + 3]? = some (.cells #[.int .i64 0, .int .i64 0] 24 (0, 0)) := (HVW.out.block _ hsw).trans hz
        by_cases hlt : i < n
        · obtain ⟨c, hcs, hdr⟩ := HL.out i hlt
          obtain ⟨b, off, rfl, hbw, HA⟩ := HC.out (by omega)
          obtain ⟨ca, cc, hR0⟩ := HA.out i c hcs
          have hR := hR0.on hbw HW.out
          clear hR0
          have hro := HRU.out c (List.mem_of_getElem? hcs)
          have HF1 := HFT c hro ca cc
          have HD1 := HLT c hro ca cc
          have HIC := hide hR.conds
          have HG2 := hide (show decideFrom kk vv ⟨ak, ae⟩ rs = if fitsB c kk && leadsB c vv then c.act else decideFrom kk vv ⟨ak, ae⟩ (rs.drop (i + 1)) by rw [HG.out, hdr, decideFrom])
          rw [← HKK.out] at HF1
          rw [← HVV.out] at HD1
          obtain ⟨fz, hfz⟩ : ∃ z, z = fitsB c kk := ⟨_, rfl⟩
          obtain ⟨dz, hdz⟩ : ∃ z, z = leadsB c vv := ⟨_, rfl⟩
          rw [← hfz] at HF1 HG2
          rw [← hdz] at HD1 HG2
          obtain ⟨p0, p1, p2, p3, _, _, _, _⟩ := hR
          clear hfz hdz hro hcs hdr HG
          obtain ⟨nr, cs, ⟨rk, re⟩⟩ := c
          unfold ruleV at HF1 HD1
          simp only at p0 p1 p2 p3 HF1 HD1 HG2 HIC
          simp only [HKA.out] at HF1
          have g0 := cell_regrown (keep_cell HB.out X0)
          have z0 := cell_regrown (keep_cell HVW.out y0)
          have z1 := cell_regrown (keep_cell HVW.out y1)
          have z2 := cell_regrown (keep_cell HVW.out y2)
          have z3 := cell_regrown (keep_cell HVW.out y3)
          have z4 := cell_regrown (keep_cell HVW.out y4)
          have z5 := cell_regrown (keep_cell HVW.out y5)
          have w0 := cell_regrown (keep_cell HVW.out vu0)
          have w1 := cell_regrown (keep_cell HVW.out vu1)
          have w2 := cell_regrown (keep_cell HVW.out vu2)
          have w3 := cell_regrown (keep_cell HVW.out vu3)
          have w4 := cell_regrown (keep_cell HVW.out vu4)
          have w5 := cell_regrown (keep_cell HVW.out vu5)
          have w6 := cell_regrown (keep_cell HVW.out vu6)
          have w7 := cell_regrown (keep_cell HVW.out vu7)
          have w8 := cell_regrown (keep_cell HVW.out vu8)
          have w9 := cell_regrown (keep_cell HVW.out vu9)
          have w10 := cell_regrown (keep_cell HVW.out vu10)
          have w11 := cell_regrown (keep_cell HVW.out vu11)
          have r0 := cell_regrown p0
          have r1 := cell_regrown p1
          have r2 := cell_regrown p2
          have r3 := cell_regrown p3
          have cF : ∀ d os, Calls Tryz.prog 17 #[.agg #[.int .i64 nr, .slice ca cs.length cc, .int .i64 rk, .int .i64 re], .agg #[.int .u32 3221225534, .int .u32 kn, .int .u64 b0, .int .u64 b1, .int .u64 b2, .int .u64 b3]] (grow (redrawn wr d) os) fun e w'' => e = .returned (.bool fz) ∧ ∃ p : Regrown, w'' = grow (redrawn wr p.d) p.os := fun d os => Calls.regrown_of (HF1 _ (HIC.out.on (below_regrown _ _ _)))
          have cL : ∀ d os, Calls Tryz.prog 19 #[.agg #[.int .i64 nr, .slice ca cs.length cc, .int .i64 rk, .int .i64 re], .agg #[.string pa0, .int .u32 ip0, .int .i64 po0, .string pa1, .int .u32 ip1, .int .i64 po1, .string pa2, .int .u32 ip2, .int .i64 po2, .string pa3, .int .u32 ip3, .int .i64 po3]] (grow (redrawn wr d) os) fun e w'' => e = .returned (.bool dz) ∧ ∃ p : Regrown, w'' = grow (redrawn wr p.d) p.os := fun d os => Calls.regrown_of (HD1 _ (HIC.out.on (below_regrown _ _ _)))
          have i5 : (0 : Int) ≤ i := by omega
          have i6 : (i : Int) < n := by omega
          clear HF1 HD1 y0 y1 y2 y3 y4 y5 vu0 vu1 vu2 vu3 vu4 vu5 vu6 vu7 vu8 vu9 vu10 vu11 x0 x1 x2 X1 X2 Y0 p0 p1
          go_wp2
          refine wp_region_quiet_below (by kernel_rfl) (by kernel_rfl) ?_
          cases fz with
          | false =>
            rw [if_neg (by simp)] at HG2
            repeat (go_big_quiet_step (first | (go_at_call 17; exact cF _ _) | (go_at_call 19; exact cL _ _)))
            refine wpQuiet_nil ?_
            intro _ hw'
            obtain ⟨⟨dq, osq⟩, hw''⟩ := hw'
            subst hw''
            clear w0 w1 w2 w3 w4 w5 w6 w7 w8 w9 w10 w11 z0 z1 z2 z3 z4 z5 cF cL
            go_wp2
            go_round
            case rel => exact ⟨i + 1, by omega, by go_num, HG2, hide (below_next HB.out (below_regrown _ _ _))⟩
            case measure => simp [intOf]; omega
          | true =>
            cases dz with
            | false =>
              rw [if_neg (by simp)] at HG2
              repeat (go_big_quiet_step (first | (go_at_call 17; exact cF _ _) | (go_at_call 19; exact cL _ _)))
              refine wpQuiet_nil ?_
              intro _ hw'
              obtain ⟨⟨dq, osq⟩, hw''⟩ := hw'
              subst hw''
              clear w0 w1 w2 w3 w4 w5 w6 w7 w8 w9 w10 w11 z0 z1 z2 z3 z4 z5 cF cL
              go_wp2
              go_round
              case rel => exact ⟨i + 1, by omega, by go_num, HG2, hide (below_next HB.out (below_regrown _ _ _))⟩
              case measure => simp [intOf]; omega
            | true =>
              rw [if_pos (by simp)] at HG2
              repeat (go_big_quiet_step (first | (go_at_call 17; exact cF _ _) | (go_at_call 19; exact cL _ _)))
              refine wpQuiet_nil ?_
              intro _ hw'
              obtain ⟨⟨dq, osq⟩, hw''⟩ := hw'
              subst hw''
              clear w0 w1 w2 w3 w4 w5 w6 w7 w8 w9 w10 w11 z0 z1 z2 z3 z4 z5 cF cL
              have hr3 := ((below_regrown wr dq osq).block _ (Array.getElem?_eq_some_iff.1 hr2).1).trans hr2
              go_wp2_with (refine wpList_store_row rfl 24 _ _ rfl (w.heap.size + 3) #[.int .i64 rk, .int .i64 re] rfl rfl 24 _ hr3 size_action rfl (one2 _ _) ?_)
              refine bodyPost_ret (v := .tuple #[.agg #[.int .i64 rk, .int .i64 re], .nilIface]) (results_act rfl _ _ (w.heap.size + 3) #[.int .i64 rk, .int .i64 re] _ rfl rfl rfl (setRow_heap _ _ _ _ _ _ hr3)) rfl ⟨?_, below_setRow (below_next HW.out (below_regrown _ _ _)) (by omega) _⟩
              rw [HV.out, HJ.out, HG2.out]
              rfl
        · obtain rfl : i = n := by omega
          have HG2 := hide (show decideFrom kk vv ⟨ak, ae⟩ rs = ⟨ak, ae⟩ by
            rw [HG.out, List.drop_eq_nil_of_le (by rw [HN.out]; exact Nat.le_refl _), decideFrom])
          have g1 := keep_cell HB.out X1
          have g2 := keep_cell HB.out X2
          go_wp2_with (refine wpList_store_row rfl 24 _ _ rfl (w.heap.size + 3) #[.int .i64 ak, .int .i64 ae] rfl rfl 24 _ hr2 size_action rfl (one2 _ _) ?_)
          refine bodyPost_ret (v := .tuple #[.agg #[.int .i64 ak, .int .i64 ae], .nilIface]) (results_act rfl _ _ (w.heap.size + 3) #[.int .i64 ak, .int .i64 ae] _ rfl rfl rfl (setRow_heap _ _ _ _ _ _ hr2)) rfl ⟨?_, below_setRow HW.out (by omega) _⟩
          rw [HV.out, HJ.out, HG2.out]
          rfl
    · have HJ := hide (show decideR ⟨rs, ⟨ak, ae⟩⟩ ⟨kar, kn, b0, b1, b2, b3⟩ ⟨⟨pa0, ip0, po0⟩, ⟨pa1, ip1, po1⟩, ⟨pa2, ip2, po2⟩, ⟨pa3, ip3, po3⟩⟩ = ⟨3, 0⟩ from if_neg ha)
      have ha' : ¬ (kar : Int) = 3221225534 := by omega
      clear ha vu0 vu1 vu2 vu3 vu4 vu5 vu6 vu7 vu8 vu9 vu10 vu11
      go_enter Tryz.func10, Tryz.ntmps10
      go_wp2_with (first
        | (go_at_call 6; rw [← hV]; clear hV; refine HCK.mono ?_; rintro e X ⟨rfl, hX⟩; have Y0 := keep_cell hX y0; have hr2 : X.heap[w.heap.size + 3]? = some (.cells #[.int .i64 0, .int .i64 0] 24 (0, 0)) := (hX.block _ (by omega)).trans hz)
        | (refine wpList_store_row rfl 24 _ _ rfl (w.heap.size + 3) #[.int .i64 3, .int .i64 0] rfl rfl 24 _ hr2 size_action rfl (one2 _ _) ?_))
      refine bodyPost_ret (v := .tuple #[.agg #[.int .i64 3, .int .i64 0], .nilIface]) (results_act rfl _ _ (w.heap.size + 3) #[.int .i64 3, .int .i64 0] _ rfl rfl rfl (setRow_heap _ _ _ _ _ _ hr2)) rfl ⟨?_, below_setRow (below_next hB hX) (by omega) _⟩
      rw [HV.out, HJ.out]
      rfl
  · have HV := hide (show decideV p k v = .tuple #[actV ⟨0, 0⟩, .iface 61 (.int .i64 (polF p : Nat))] by unfold decideV; rw [if_neg hf, errV_pos hf])
    rw [errV_pos hf] at HCK
    clear hf hpk hk hv HC
    unfold polV klV klC vsV vsC at *
    have x0 := hx 0
    have x1 := hx 1
    have x2 := hx 2
    simp only [List.getElem?_toArray, List.getElem?_cons_zero, List.getElem?_cons_succ] at x0 x1 x2
    clear hx hy hu
    go_enter Tryz.func10, Tryz.ntmps10
    go_wp2_with (first
      | (go_at_call 6; rw [← hV]; clear hV; refine HCK.mono ?_; rintro e X ⟨rfl, hX⟩; have hr2 : X.heap[w.heap.size + 3]? = some (.cells #[.int .i64 0, .int .i64 0] 24 (0, 0)) := (hX.block _ (by omega)).trans hz)
      | (refine wpList_store_row rfl 24 _ _ rfl (w.heap.size + 3) #[.int .i64 0, .int .i64 0] rfl rfl 24 _ hr2 size_action rfl (one2 _ _) ?_))
    refine bodyPost_ret (v := .tuple #[.agg #[.int .i64 0, .int .i64 0], .iface 61 (.int .i64 (polF p : Nat))]) (results_act rfl _ _ (w.heap.size + 3) #[.int .i64 0, .int .i64 0] _ rfl rfl rfl (setRow_heap _ _ _ _ _ _ hr2)) rfl ⟨?_, below_setRow (below_next hB hX) (by omega) _⟩
    rw [HV.out]
    rfl
end Go.Proofs.YtbifjokfnahiaabGreatDoor

/- What judging by registers tells of deciding. -/
namespace Go.Proofs.YtbifjokfnahiaabGreatDoor

theorem act_kind {a : ACT} (h : actF a = 0) : a.kind ≠ 4 := by
  rcases act_cases h with rfl | rfl | ⟨n, _, _, rfl⟩ <;> simp
theorem num_lead {c : CD} (h : numB c = true) (v : VS) : leadB v c = true := by
  unfold numB kindOp at h
  unfold leadB
  split at h
  · cases h
  · rename_i h8
    rw [if_neg h8]
    split at h
    · cases h
    · rename_i h9
      rw [if_neg h9]
theorem flat_leads {r : RL} (h : deepB r = false) (v : VS) : leadsB r v = true := by
  unfold leadsB
  rw [List.all_eq_true]
  intro c hc
  apply num_lead
  unfold deepB at h
  rw [List.any_eq_false] at h
  have := h c hc
  simpa using this
theorem decide_kind (k : KL) (v : VS) (els : ACT) (he : actF els = 0) : ∀ rs : List RL, (∀ r ∈ rs, actF r.act = 0) → (decideFrom k v els rs).kind ≠ 4
  | [], _ => act_kind he
  | r :: t, h => by
    rw [decideFrom]
    split
    · exact act_kind (h r (List.mem_cons_self ..))
    · exact decide_kind k v els he t fun x hx => h x (List.mem_cons_of_mem _ hx)
theorem judge_decide (k : KL) (v : VS) (els : ACT) (he : actF els = 0) : ∀ (rs : List RL) (i : Nat), (∀ r ∈ rs, actF r.act = 0) →
    ((judgeFrom k els rs i).1.kind = 4 ∧ i ≤ (judgeFrom k els rs i).2 ∧ (judgeFrom k els rs i).2 < i + rs.length ∧ decideFrom k v els (rs.drop ((judgeFrom k els rs i).2 - i)) = decideFrom k v els rs) ∨
    ((judgeFrom k els rs i).1.kind ≠ 4 ∧ (judgeFrom k els rs i).2 = 0 ∧ decideFrom k v els rs = (judgeFrom k els rs i).1)
  | [], i, _ => .inr ⟨act_kind he, rfl, rfl⟩
  | r :: t, i, h => by
    rw [judgeFrom]
    by_cases hf : fitsB r k = true
    · rw [if_pos hf]
      cases hd : deepB r with
      | true => exact .inl ⟨rfl, Nat.le_refl _, by simp, by simp⟩
      | false =>
        refine .inr ⟨act_kind (h r (List.mem_cons_self ..)), rfl, ?_⟩
        rw [decideFrom, hf, flat_leads hd]
        rfl
    · rw [if_neg hf]
      have hd : decideFrom k v els (r :: t) = decideFrom k v els t := by rw [decideFrom, Bool.eq_false_iff.2 hf]; rfl
      rw [hd]
      rcases judge_decide k v els he t (i + 1) (fun x hx => h x (List.mem_cons_of_mem _ hx)) with ⟨a, b, c, d⟩ | ⟨a, b, c⟩
      · refine .inl ⟨a, by omega, by rw [List.length_cons]; omega, ?_⟩
        rw [show (judgeFrom k els t (i + 1)).2 - i = ((judgeFrom k els t (i + 1)).2 - (i + 1)) + 1 by omega, List.drop_succ_cons]
        exact d
      · exact .inr ⟨a, b, c⟩
theorem firstF_drop : ∀ (l : List Nat) (i : Nat), firstF l = 0 → firstF (l.drop i) = 0
  | _, 0, h => h
  | [], i + 1, _ => rfl
  | x :: r, i + 1, h => by
    rw [firstF] at h
    split at h
    · exact firstF_drop r i h
    · rename_i hx; exact absurd h hx
theorem polF_drop {p : POL} (h : polF p = 0) (i : Nat) : polF ⟨p.rules.drop i, p.els⟩ = 0 := by
  unfold polF at h ⊢
  split at h
  · cases h
  · rename_i hl
    split at h
    · rename_i ha
      rw [if_neg (by simp; omega)]
      simp only
      rw [if_pos ha, List.map_drop]
      exact firstF_drop _ i h
    · rename_i ha; exact absurd h ha
/-- What the whole says of a right policy. -/
theorem top_laws {p : POL} (h : PolOk p) (k : KL) (v : VS) :
    ((judgeR p k).1.kind = 4 ∧ (judgeR p k).2 < p.rules.length ∧ (decideR p k v).kind ≠ 4 ∧ decideR ⟨p.rules.drop (judgeR p k).2, p.els⟩ k v = decideR p k v) ∨
    ((judgeR p k).1.kind ≠ 4 ∧ (judgeR p k).2 = 0 ∧ decideR p k v = (judgeR p k).1) := by
  unfold judgeR decideR
  by_cases ha : k.arch = 3221225534
  · simp only [if_pos ha]
    have hr : ∀ r ∈ p.rules, actF r.act = 0 := fun r hr => (h.rules r hr).act
    rcases judge_decide k v p.els h.els p.rules 0 hr with ⟨a, _, c, d⟩ | ⟨a, b, c⟩
    · rw [Nat.sub_zero] at d
      exact .inl ⟨a, by omega, decide_kind k v p.els h.els p.rules hr, d⟩
    · exact .inr ⟨a, b, c⟩
  · simp only [if_neg ha]
    exact .inr (by simp)
end Go.Proofs.YtbifjokfnahiaabGreatDoor
