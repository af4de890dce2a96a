/- policy.Judge. -/
import Derived.Test.YtklibmijiecbfaaGreatK9
namespace Go.Proofs.YtklibmijiecbfaaGreat
open Go.RowKit Go.Sort

def judgeFrom (k : KL) (els : ACT) : List RL → Nat → ACT × Nat
 | [], _ => (els, 0)
 | r :: t, i => if fitsB r k then (if deepB r then (⟨4, 0⟩, i) else (r.act, 0)) else judgeFrom k els t (i + 1)
def judgeR (p : POL) (k : KL) : ACT × Nat := if k.arch = 3221225534 then judgeFrom k p.els p.rules 0 else (⟨3, 0⟩, 0)
def decideFrom (k : KL) (v : VS) (els : ACT) : List RL → ACT
 | [] => els
 | r :: t => if fitsB r k && leadsB r v then r.act else decideFrom k v els t
def decideR (p : POL) (k : KL) (v : VS) : ACT := if k.arch = 3221225534 then decideFrom k v p.els p.rules else ⟨3, 0⟩
def verC (a : ACT) (i : Nat) : Array Value := #[.int .i64 a.kind, .int .i64 a.errno, .int .i64 i]
def verV (x : ACT × Nat) : Value := .agg (verC x.1 x.2)
def judgeV (p : POL) (k : KL) : Value := .tuple #[if polF p = 0 then verV (judgeR p k) else verV (⟨0, 0⟩, 0), errV (polF p)]
def decideV (p : POL) (k : KL) (v : VS) : Value := .tuple #[if polF p = 0 then actV (decideR p k v) else actV ⟨0, 0⟩, errV (polF p)]
theorem size_ver : (Tryz.prog.info? 121).map (·.size) = some 3 := by kernel_rfl
theorem verC_one (a : ACT) (i : Nat) : (verC a i).all (·.oneCell') = true := by simp [verC, Value.oneCell']
theorem results_ver {fn : Func} {p u : Tmp} (h : fn.results = #[.cell p 121, .tmp u]) (tmps : Array Value) (w : World) (g : Nat) (cs : Array Value) (v : Value) (hs : cs.size = 3)
  (hp : tmps.getD p undef = .pointer (some ⟨g, 0, none⟩)) (hv : tmps.getD u undef = v) (hg : w.heap[g]? = some (.cells cs 121 (0, 0))) :
  (results fn tmps).run Tryz.prog w = .ok (.tuple #[.agg cs, v]) w := by
 rw [results_cell_tmp h, hp, hv]
 have hl := run_loadVar_row (P := Tryz.prog) w g 121 121 cs (0, 0) _ hg Tryz.underlying121 rfl (by rw [hs]; exact size_ver)
 simp [asAddr, hl]
theorem results_act {fn : Func} {p u : Tmp} (h : fn.results = #[.cell p 24, .tmp u]) (tmps : Array Value) (w : World) (g : Nat) (cs : Array Value) (v : Value) (hs : cs.size = 2)
  (hp : tmps.getD p undef = .pointer (some ⟨g, 0, none⟩)) (hv : tmps.getD u undef = v) (hg : w.heap[g]? = some (.cells cs 24 (0, 0))) :
  (results fn tmps).run Tryz.prog w = .ok (.tuple #[.agg cs, v]) w := by
 rw [results_cell_tmp h, hp, hv]
 have hl := run_loadVar_row (P := Tryz.prog) w g 24 24 cs (0, 0) _ hg Tryz.underlying24 rfl (by rw [hs]; exact size_action)
 simp [asAddr, hl]
theorem three_box (w : World) (x y z : Array Value) (tx ty tz : TypeId) : ∃ V, V = ((w.alloc (.cells x tx)).alloc (.cells y ty)).alloc (.cells z tz) ∧ Below w.heap.size w V ∧ V.heap.size = w.heap.size + 3 ∧ (∀ j : Nat, V.cell? ⟨w.heap.size, j, none⟩ = x[j]?) ∧ (∀ j : Nat, V.cell? ⟨w.heap.size + 1, j, none⟩ = y[j]?) ∧ V.heap[w.heap.size + 2]? = some (.cells z tz (0, 0)) := by
 obtain ⟨U, hU, hb, h1, h2⟩ := two_box w x y tx ty
 have hs : U.heap.size = w.heap.size + 2 := by rw [hU, World.size_alloc, World.size_alloc]
 refine ⟨U.alloc (.cells z tz), by rw [hU], below_next hb (box_below _ _), by rw [World.size_alloc, hs], fun j => ?_, fun j => ?_, ?_⟩
 ·
  rw [← h1 j]; exact (bcell (box_below U _)).1 _ j (by omega)
 ·
  rw [← h2 j]; exact (bcell (box_below U _)).1 _ j (by omega)
 ·
  rw [← hs]; exact heap_alloc_new _ _

theorem drop_next {α : Type} {cs : List α} {i : Nat} (h : i < cs.length) : ∃ c, cs[i]? = some c ∧ cs.drop i = c :: cs.drop (i + 1) :=
 ⟨cs[i], List.getElem?_eq_getElem h, (List.getElem_cons_drop h).symm⟩

set_option maxHeartbeats 1000000 in
set_option maxRecDepth 100000 in
theorem judge_any (p : POL) (oa : Option Addr) (cap : Nat) (k : KL) (hk : KlOk k) (w : World) (hp : IsPol oa cap p w) :
  Calls Tryz.prog 50 #[polV p oa cap, klV k] w fun e w' => e = .returned (judgeV p k) ∧ Below w.heap.size w w' := by
 obtain ⟨n, hn⟩ : ∃ n, n = p.rules.length := ⟨_, rfl⟩
 obtain ⟨V, hV, hB, hVs, hx, hy, hz⟩ := three_box w #[.slice oa p.rules.length cap, .int .i64 p.els.kind, .int .i64 p.els.errno] (klC k) #[.int .i64 0, .int .i64 0, .int .i64 0] 26 52 121
 have HCK := pcheck_any p oa cap V (hp.on hB)
 have HC := hide (pol_parts hp n hn)
 have hmax : n ≤ 9223372036854775807 := by have h1 := hp.le; have h2 := hp.cap; unfold maxLen at h2; omega
 have hpk := hp.ok
 clear hp
 unfold klC at hV hy
 by_cases hf : polF p = 0
 ·
  have hok := pol_ok hf hpk
  have HV := hide (show judgeV p k = .tuple #[verV (judgeR p k), .nilIface] by unfold judgeV; rw [if_pos hf, hf]; rfl)
  rw [hf, errV_zero] at HCK
  have HRU := hide hok.rules
  have h12 : n ≤ 12 := by have := hok.few; omega
  have HFT := fun r hr oa cap X hc => fits_any r hr oa cap k hk X hc
  have HKL := hide hk
  clear hf hpk hok hk
  obtain ⟨rs, ⟨ak, ae⟩⟩ := p
  have HL := hide (show ∀ i, i < n → ∃ c, rs[i]? = some c ∧ rs.drop i = c :: rs.drop (i + 1) from fun i h => drop_next (by simp only at hn; omega))
  unfold polV klV klC at *
  simp only at *
  rw [← hn] at hV hx HCK ⊢
  have HN := hide hn
  clear hn
  obtain ⟨kar, kn, b0, b1, b2, b3⟩ := k
  simp only at *
  have x0 := hx 0
  have x1 := hx 1
  have x2 := hx 2
  have y0 := hy 0
  have y1 := hy 1
  have y2 := hy 2
  have y3 := hy 3
  have y4 := hy 4
  have y5 := hy 5
  simp only [List.getElem?_toArray, List.getElem?_cons_zero, List.getElem?_cons_succ] at x0 x1 x2 y0 y1 y2 y3 y4 y5
  clear hx hy
  by_cases ha : kar = 3221225534
  ·
   have HJ := hide (show judgeR ⟨rs, ⟨ak, ae⟩⟩ ⟨kar, kn, b0, b1, b2, b3⟩ = judgeFrom ⟨kar, kn, b0, b1, b2, b3⟩ ⟨ak, ae⟩ rs 0 from if_pos ha)
   have ha' : (kar : Int) = 3221225534 := by omega
   rw [ha'] at hV y0 ⊢
   have HKA := hide ha'
   clear ha ha'
   go_enter Tryz.func50, Tryz.ntmps50
   go_wp2_with (go_at_call 19; rw [← hV]; clear hV; refine HCK.mono ?_; rintro e X ⟨rfl, hX⟩; have X0 := keep_cell hX x0; have X1 := keep_cell hX x1; have X2 := keep_cell hX x2; have Y0 := keep_cell hX y0; have Y1 := keep_cell hX y1; have Y2 := keep_cell hX y2; have Y3 := keep_cell hX y3; have Y4 := keep_cell hX y4; have Y5 := keep_cell hX y5)
   go_loopw [23] (fun I w' => ∃ i : Nat, i ≤ n ∧ I = .int .i64 i ∧ Hid (judgeFrom ⟨kar, kn, b0, b1, b2, b3⟩ ⟨ak, ae⟩ rs 0 = judgeFrom ⟨kar, kn, b0, b1, b2, b3⟩ ⟨ak, ae⟩ (rs.drop i) i) ∧ Hid (Below X.heap.size X w')) (fun I _ => n - (intOf I).toNat)
   case atStart => exact ⟨0, by omega, rfl, hide rfl, hide (Below.refl _ _)⟩
   case round =>
    obtain ⟨i, hi, rfl, HG, HB⟩ := hrel
    have HW := hide (below_next (below_next hB hX) HB.out)
    have HVW := hide (below_next hX HB.out)
    have hsw : w.heap.size + 2 < V.heap.size := by omega
    by_cases hlt : i < n
    ·
     obtain ⟨c, hcs, hdr⟩ := HL.out i hlt
     obtain ⟨b, off, rfl, hbw, HA⟩ := HC.out (by omega)
     obtain ⟨ca, cc, hR0⟩ := HA.out i c hcs
     have hR := hR0.on hbw HW.out
     clear hR0
     have hro := HRU.out c (List.mem_of_getElem? hcs)
     have HF1 := HFT c hro ca cc
     have HD1 := fun X hc => isDeep_any c hro.few ca cc X hc
     have HIC := hide hR.conds
     have HG2 := hide (show judgeFrom ⟨kar, kn, b0, b1, b2, b3⟩ ⟨ak, ae⟩ rs 0 = if fitsB c ⟨kar, kn, b0, b1, b2, b3⟩ then (if deepB c then (⟨4, 0⟩, i) else (c.act, 0)) else judgeFrom ⟨kar, kn, b0, b1, b2, b3⟩ ⟨ak, ae⟩ (rs.drop (i + 1)) (i + 1) by rw [HG.out, hdr, judgeFrom])
     obtain ⟨fz, hfz⟩ : ∃ z, z = fitsB c ⟨kar, kn, b0, b1, b2, b3⟩ := ⟨_, rfl⟩
     obtain ⟨dz, hdz⟩ : ∃ z, z = deepB c := ⟨_, rfl⟩
     rw [← hfz] at HF1 HG2
     rw [← hdz] at HD1 HG2
     obtain ⟨p0, p1, p2, p3, _, _, _, _⟩ := hR
     clear hfz hdz hro hcs hdr HG
     obtain ⟨nr, cs, ⟨rk, re⟩⟩ := c
     unfold ruleV at HF1 HD1
     simp only at p0 p1 p2 p3 HF1 HD1 HG2 HIC
     simp only [HKA.out] at HF1
     have g0 := keep_cell HB.out X0
     have z0 := keep_cell HB.out Y0
     have z1 := keep_cell HB.out Y1
     have z2 := keep_cell HB.out Y2
     have z3 := keep_cell HB.out Y3
     have z4 := keep_cell HB.out Y4
     have z5 := keep_cell HB.out Y5
     have lw : w.heap.size + 1 < wr.heap.size := block_lt_of_cell z0
     cases fz with
     | false =>
      rw [if_neg (by decide)] at HG2
      go_wp2_with (go_at_call 79; refine (HF1 _ (HIC.out.on (box_below _ _))).mono ?_; rintro e w1 ⟨rfl, hb1⟩)
      go_round
      case rel => exact ⟨i + 1, by omega, by go_num, HG2, hide (below_next HB.out (below_next (box_below _ _) hb1))⟩
      case measure => simp [intOf]; omega
     | true =>
      rw [if_pos rfl] at HG2
      obtain ⟨W1, hW1, hW1b, _, hW1c⟩ := one_box wr #[.int .i64 nr, .slice ca cs.length cc, .int .i64 rk, .int .i64 re] 41
      have r0 := hW1c 0
      have r1 := hW1c 1
      have r2 := hW1c 2
      have r3 := hW1c 3
      simp only [List.getElem?_toArray, List.getElem?_cons_zero, List.getElem?_cons_succ] at r0 r1 r2 r3
      clear hW1c
      cases dz with
      | true =>
       rw [if_pos rfl] at HG2
       go_wp2_with (first
        | (go_at_call 79; rw [← hW1]; refine (HF1 _ (HIC.out.on hW1b)).mono ?_; rintro e w1 ⟨rfl, hb1⟩; have s0 := keep_cell hb1 r0; have s1 := keep_cell hb1 r1; have s2 := keep_cell hb1 r2; have s3 := keep_cell hb1 r3; have HB1 := hide hb1; clear hb1)
        | (go_at_call 80; refine (HD1 _ ((HIC.out.on hW1b).on HB1.out)).mono ?_; rintro e w2 ⟨rfl, hb2⟩; have hr2 : w2.heap[w.heap.size + 2]? = some (.cells #[.int .i64 0, .int .i64 0, .int .i64 0] 121 (0, 0)) := ((below_next HVW.out (below_next hW1b (below_next HB1.out hb2))).block _ hsw).trans hz)
        | (refine wpList_store_row rfl 121 _ _ rfl (w.heap.size + 2) (verC ⟨4, 0⟩ i) rfl rfl 121 _ hr2 size_ver rfl (verC_one _ _) ?_))
       refine bodyPost_ret (v := .tuple #[.agg (verC ⟨4, 0⟩ i), .nilIface]) (results_ver rfl _ _ (w.heap.size + 2) (verC ⟨4, 0⟩ i) _ rfl rfl rfl (setRow_heap _ _ _ _ _ _ hr2)) rfl ⟨?_, below_setRow (below_next HW.out (below_next hW1b (below_next HB1.out hb2))) (by omega) _⟩
       rw [HV.out, HJ.out, HG2.out]
       rfl
      | false =>
       rw [if_neg (by decide)] at HG2
       go_wp2_with (first
        | (go_at_call 79; rw [← hW1]; refine (HF1 _ (HIC.out.on hW1b)).mono ?_; rintro e w1 ⟨rfl, hb1⟩; have s0 := keep_cell hb1 r0; have s1 := keep_cell hb1 r1; have s2 := keep_cell hb1 r2; have s3 := keep_cell hb1 r3; have HB1 := hide hb1; clear hb1)
        | (go_at_call 80; refine (HD1 _ ((HIC.out.on hW1b).on HB1.out)).mono ?_; rintro e w2 ⟨rfl, hb2⟩; have t2 := keep_cell hb2 s2; have t3 := keep_cell hb2 s3; have hr2 : w2.heap[w.heap.size + 2]? = some (.cells #[.int .i64 0, .int .i64 0, .int .i64 0] 121 (0, 0)) := ((below_next HVW.out (below_next hW1b (below_next HB1.out hb2))).block _ hsw).trans hz)
        | (refine wpList_store_row rfl 121 _ _ rfl (w.heap.size + 2) (verC ⟨rk, re⟩ 0) rfl rfl 121 _ hr2 size_ver rfl (verC_one _ _) ?_))
       refine bodyPost_ret (v := .tuple #[.agg (verC ⟨rk, re⟩ 0), .nilIface]) (results_ver rfl _ _ (w.heap.size + 2) (verC ⟨rk, re⟩ 0) _ rfl rfl rfl (setRow_heap _ _ _ _ _ _ hr2)) rfl ⟨?_, below_setRow (below_next HW.out (below_next hW1b (below_next HB1.out hb2))) (by omega) _⟩
       rw [HV.out, HJ.out, HG2.out]
       rfl
    ·
     obtain rfl : i = n := by omega
     have HG2 := hide (show judgeFrom ⟨kar, kn, b0, b1, b2, b3⟩ ⟨ak, ae⟩ rs 0 = (⟨ak, ae⟩, 0) by
      rw [HG.out, List.drop_eq_nil_of_le (by rw [HN.out]; exact Nat.le_refl _), judgeFrom])
     have g1 := keep_cell HB.out X1
     have g2 := keep_cell HB.out X2
     have hr2 : wr.heap[w.heap.size + 2]? = some (.cells #[.int .i64 0, .int .i64 0, .int .i64 0] 121 (0, 0)) := (HVW.out.block _ hsw).trans hz
     go_wp2_with (refine wpList_store_row rfl 121 _ _ rfl (w.heap.size + 2) (verC ⟨ak, ae⟩ 0) rfl rfl 121 _ hr2 size_ver rfl (verC_one _ _) ?_)
     refine bodyPost_ret (v := .tuple #[.agg (verC ⟨ak, ae⟩ 0), .nilIface]) (results_ver rfl _ _ (w.heap.size + 2) (verC ⟨ak, ae⟩ 0) _ rfl rfl rfl (setRow_heap _ _ _ _ _ _ hr2)) rfl ⟨?_, below_setRow HW.out (by omega) _⟩
     rw [HV.out, HJ.out, HG2.out]
     rfl
  ·
   have HJ := hide (show judgeR ⟨rs, ⟨ak, ae⟩⟩ ⟨kar, kn, b0, b1, b2, b3⟩ = (⟨3, 0⟩, 0) from if_neg ha)
   have ha' : ¬ (kar : Int) = 3221225534 := by omega
   clear ha
   go_enter Tryz.func50, Tryz.ntmps50
   go_wp2_with (first
    | (go_at_call 19; rw [← hV]; clear hV; refine HCK.mono ?_; rintro e X ⟨rfl, hX⟩; have Y0 := keep_cell hX y0; have hr2 : X.heap[w.heap.size + 2]? = some (.cells #[.int .i64 0, .int .i64 0, .int .i64 0] 121 (0, 0)) := (hX.block _ (by omega)).trans hz)
    | (refine wpList_store_row rfl 121 _ _ rfl (w.heap.size + 2) (verC ⟨3, 0⟩ 0) rfl rfl 121 _ hr2 size_ver rfl (verC_one _ _) ?_))
   refine bodyPost_ret (v := .tuple #[.agg (verC ⟨3, 0⟩ 0), .nilIface]) (results_ver rfl _ _ (w.heap.size + 2) (verC ⟨3, 0⟩ 0) _ rfl rfl rfl (setRow_heap _ _ _ _ _ _ hr2)) rfl ⟨?_, below_setRow (below_next hB hX) (by omega) _⟩
   rw [HV.out, HJ.out]
   rfl
 ·
  have HV := hide (show judgeV p k = .tuple #[verV (⟨0, 0⟩, 0), .iface 82 (.int .i64 (polF p : Nat))] by unfold judgeV; rw [if_neg hf, errV_pos hf])
  rw [errV_pos hf] at HCK
  clear hf hpk hk HC
  unfold polV klV klC at *
  have x0 := hx 0
  have x1 := hx 1
  have x2 := hx 2
  simp only [List.getElem?_toArray, List.getElem?_cons_zero, List.getElem?_cons_succ] at x0 x1 x2
  clear hx hy
  go_enter Tryz.func50, Tryz.ntmps50
  go_wp2_with (first
   | (go_at_call 19; rw [← hV]; clear hV; refine HCK.mono ?_; rintro e X ⟨rfl, hX⟩; have hr2 : X.heap[w.heap.size + 2]? = some (.cells #[.int .i64 0, .int .i64 0, .int .i64 0] 121 (0, 0)) := (hX.block _ (by omega)).trans hz)
   | (refine wpList_store_row rfl 121 _ _ rfl (w.heap.size + 2) (verC ⟨0, 0⟩ 0) rfl rfl 121 _ hr2 size_ver rfl (verC_one _ _) ?_))
  refine bodyPost_ret (v := .tuple #[.agg (verC ⟨0, 0⟩ 0), .iface 82 (.int .i64 (polF p : Nat))]) (results_ver rfl _ _ (w.heap.size + 2) (verC ⟨0, 0⟩ 0) _ rfl rfl rfl (setRow_heap _ _ _ _ _ _ hr2)) rfl ⟨?_, below_setRow (below_next hB hX) (by omega) _⟩
  rw [HV.out]
  rfl
end Go.Proofs.YtklibmijiecbfaaGreat
