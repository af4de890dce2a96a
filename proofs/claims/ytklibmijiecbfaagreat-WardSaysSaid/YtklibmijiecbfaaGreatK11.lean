/- policy.Decide. -/
import Derived.Test.YtklibmijiecbfaaGreatK10
namespace Go.Proofs.YtklibmijiecbfaaGreat
open Go.RowKit Go.Sort

theorem four_box (w : World) (x y z u : Array Value) (tx ty tz tu : TypeId) : ∃ V, V = (((w.alloc (.cells x tx)).alloc (.cells y ty)).alloc (.cells z tz)).alloc (.cells u tu) ∧ Below w.heap.size w V ∧ V.heap.size = w.heap.size + 4 ∧ (∀ j : Nat, V.cell? ⟨w.heap.size, j, none⟩ = x[j]?) ∧ (∀ j : Nat, V.cell? ⟨w.heap.size + 1, j, none⟩ = y[j]?) ∧ (∀ j : Nat, V.cell? ⟨w.heap.size + 2, j, none⟩ = z[j]?) ∧ V.heap[w.heap.size + 3]? = some (.cells u tu (0, 0)) := by
 obtain ⟨U, hU, hb, hs, h1, h2, h3⟩ := three_box w x y z tx ty tz
 refine ⟨U.alloc (.cells u tu), by rw [hU], below_next hb (box_below _ _), by rw [World.size_alloc, hs], fun j => ?_, fun j => ?_, fun j => ?_, ?_⟩
 ·
  rw [← h1 j]; exact (bcell (box_below U _)).1 _ j (by omega)
 ·
  rw [← h2 j]; exact (bcell (box_below U _)).1 _ j (by omega)
 ·
  rw [(bcell (box_below U _)).1 _ j (by omega)]; exact cell_of_row _ _ j _ _ _ h3
 ·
  rw [← hs]; exact heap_alloc_new _ _

set_option maxHeartbeats 2000000 in
set_option maxRecDepth 100000 in
theorem decide_any (p : POL) (oa : Option Addr) (cap : Nat) (k : KL) (hk : KlOk k) (v : VS) (hv : VsOk v) (w : World) (hp : IsPol oa cap p w) :
  Calls Tryz.prog 57 #[polV p oa cap, klV k, vsV v] w fun e w' => e = .returned (decideV p k v) ∧ Below w.heap.size w w' := by
 obtain ⟨n, hn⟩ : ∃ n, n = p.rules.length := ⟨_, rfl⟩
 obtain ⟨V, hV, hB, hVs, hx, hy, hu, hz⟩ := four_box w #[.slice oa p.rules.length cap, .int .i64 p.els.kind, .int .i64 p.els.errno] (klC k) (vsC v) #[.int .i64 0, .int .i64 0] 26 52 68 24
 have HCK := pcheck_any p oa cap V (hp.on hB)
 have HC := hide (pol_parts hp n hn)
 have hmax : n ≤ 9223372036854775807 := by have h1 := hp.le; have h2 := hp.cap; unfold maxLen at h2; omega
 have hpk := hp.ok
 clear hp
 unfold klC at hV hy
 unfold vsC at hV hu
 by_cases hf : polF p = 0
 ·
  have hok := pol_ok hf hpk
  have HV := hide (show decideV p k v = .tuple #[actV (decideR p k v), .nilIface] by unfold decideV; rw [if_pos hf, hf]; rfl)
  rw [hf, errV_zero] at HCK
  have HRU := hide hok.rules
  have h12 : n ≤ 12 := by have := hok.few; omega
  have HFT := fun r hr oa cap X hc => fits_any r hr oa cap k hk X hc
  have HLT := fun r hr oa cap X hc => leads_any r hr oa cap v hv X hc
  clear hf hpk hok hk hv
  obtain ⟨rs, ⟨ak, ae⟩⟩ := p
  have HL := hide (show ∀ i, i < n → ∃ c, rs[i]? = some c ∧ rs.drop i = c :: rs.drop (i + 1) from fun i h => drop_next (by simp only at hn; omega))
  unfold polV klV klC vsV vsC at *
  simp only at *
  rw [← hn] at hV hx HCK ⊢
  have HN := hide hn
  clear hn
  obtain ⟨kar, kn, b0, b1, b2, b3⟩ := k
  obtain ⟨⟨pa0, ip0, po0⟩, ⟨pa1, ip1, po1⟩, ⟨pa2, ip2, po2⟩, ⟨pa3, ip3, po3⟩⟩ := v
  simp only at *
  have x0 := hx 0
  have x1 := hx 1
  have x2 := hx 2
  have y0 := hy 0
  have y1 := hy 1
  have y2 := hy 2
  have y3 := hy 3
  have y4 := hy 4
  have y5 := hy 5
  have vu0 := hu 0
  have vu1 := hu 1
  have vu2 := hu 2
  have vu3 := hu 3
  have vu4 := hu 4
  have vu5 := hu 5
  have vu6 := hu 6
  have vu7 := hu 7
  have vu8 := hu 8
  have vu9 := hu 9
  have vu10 := hu 10
  have vu11 := hu 11
  simp only [List.getElem?_toArray, List.getElem?_cons_zero, List.getElem?_cons_succ] at x0 x1 x2 y0 y1 y2 y3 y4 y5 vu0 vu1 vu2 vu3 vu4 vu5 vu6 vu7 vu8 vu9 vu10 vu11
  clear hx hy hu
  by_cases ha : kar = 3221225534
  ·
   have HJ := hide (show decideR ⟨rs, ⟨ak, ae⟩⟩ ⟨kar, kn, b0, b1, b2, b3⟩ ⟨⟨pa0, ip0, po0⟩, ⟨pa1, ip1, po1⟩, ⟨pa2, ip2, po2⟩, ⟨pa3, ip3, po3⟩⟩ = decideFrom ⟨kar, kn, b0, b1, b2, b3⟩ ⟨⟨pa0, ip0, po0⟩, ⟨pa1, ip1, po1⟩, ⟨pa2, ip2, po2⟩, ⟨pa3, ip3, po3⟩⟩ ⟨ak, ae⟩ rs from if_pos ha)
   have ha' : (kar : Int) = 3221225534 := by omega
   rw [ha'] at hV y0 ⊢
   have HKA := hide ha'
   clear ha ha'
   obtain ⟨kk, hkk⟩ : ∃ k : KL, k = ⟨kar, kn, b0, b1, b2, b3⟩ := ⟨_, rfl⟩
   obtain ⟨vv, hvv⟩ : ∃ v : VS, v = ⟨⟨pa0, ip0, po0⟩, ⟨pa1, ip1, po1⟩, ⟨pa2, ip2, po2⟩, ⟨pa3, ip3, po3⟩⟩ := ⟨_, rfl⟩
   rw [← hkk, ← hvv] at HJ HV ⊢
   have HKK := hide hkk
   have HVV := hide hvv
   clear hkk hvv
   go_enter Tryz.func57, Tryz.ntmps57
   go_wp2_with (go_at_call 19; rw [← hV]; clear hV; refine HCK.mono ?_; rintro e X ⟨rfl, hX⟩; have X0 := keep_cell hX x0; have X1 := keep_cell hX x1; have X2 := keep_cell hX x2; have Y0 := keep_cell hX y0; refine Hid.out ?_)
   refine hide ?_
   go_wp2
   go_loopw [23] (fun I w' => ∃ i : Nat, i ≤ n ∧ I = .int .i64 i ∧ Hid (decideFrom kk vv ⟨ak, ae⟩ rs = decideFrom kk vv ⟨ak, ae⟩ (rs.drop i)) ∧ Hid (Below X.heap.size X w')) (fun I _ => n - (intOf I).toNat)
   case atStart => exact ⟨0, by omega, rfl, hide rfl, hide (Below.refl _ _)⟩
   case round =>
    obtain ⟨i, hi, rfl, HG, HB⟩ := hrel
    have HW := hide (below_next (below_next hB hX) HB.out)
    have HVW := hide (below_next hX HB.out)
    have hsw : w.heap.size + 3 < V.heap.size := by omega
    have hr2 : wr.heap[w.heap.size + 3]? = some (.cells #[.int .i64 0, .int .i64 0] 24 (0, 0)) := (HVW.out.block _ hsw).trans hz
    by_cases hlt : i < n
    ·
     obtain ⟨c, hcs, hdr⟩ := HL.out i hlt
     obtain ⟨b, off, rfl, hbw, HA⟩ := HC.out (by omega)
     obtain ⟨ca, cc, hR0⟩ := HA.out i c hcs
     have hR := hR0.on hbw HW.out
     clear hR0
     have hro := HRU.out c (List.mem_of_getElem? hcs)
     have HF1 := HFT c hro ca cc
     have HD1 := HLT c hro ca cc
     have HIC := hide hR.conds
     have HG2 := hide (show decideFrom kk vv ⟨ak, ae⟩ rs = if fitsB c kk && leadsB c vv then c.act else decideFrom kk vv ⟨ak, ae⟩ (rs.drop (i + 1)) by rw [HG.out, hdr, decideFrom])
     rw [← HKK.out] at HF1
     rw [← HVV.out] at HD1
     obtain ⟨fz, hfz⟩ : ∃ z, z = fitsB c kk := ⟨_, rfl⟩
     obtain ⟨dz, hdz⟩ : ∃ z, z = leadsB c vv := ⟨_, rfl⟩
     rw [← hfz] at HF1 HG2
     rw [← hdz] at HD1 HG2
     obtain ⟨p0, p1, p2, p3, _, _, _, _⟩ := hR
     clear hfz hdz hro hcs hdr HG
     obtain ⟨nr, cs, ⟨rk, re⟩⟩ := c
     unfold ruleV at HF1 HD1
     simp only at p0 p1 p2 p3 HF1 HD1 HG2 HIC
     simp only [HKA.out] at HF1
     have g0 := cell_regrown (keep_cell HB.out X0)
     have z0 := cell_regrown (keep_cell HVW.out y0)
     have z1 := cell_regrown (keep_cell HVW.out y1)
     have z2 := cell_regrown (keep_cell HVW.out y2)
     have z3 := cell_regrown (keep_cell HVW.out y3)
     have z4 := cell_regrown (keep_cell HVW.out y4)
     have z5 := cell_regrown (keep_cell HVW.out y5)
     have w0 := cell_regrown (keep_cell HVW.out vu0)
     have w1 := cell_regrown (keep_cell HVW.out vu1)
     have w2 := cell_regrown (keep_cell HVW.out vu2)
     have w3 := cell_regrown (keep_cell HVW.out vu3)
     have w4 := cell_regrown (keep_cell HVW.out vu4)
     have w5 := cell_regrown (keep_cell HVW.out vu5)
     have w6 := cell_regrown (keep_cell HVW.out vu6)
     have w7 := cell_regrown (keep_cell HVW.out vu7)
     have w8 := cell_regrown (keep_cell HVW.out vu8)
     have w9 := cell_regrown (keep_cell HVW.out vu9)
     have w10 := cell_regrown (keep_cell HVW.out vu10)
     have w11 := cell_regrown (keep_cell HVW.out vu11)
     have r0 := cell_regrown p0
     have r1 := cell_regrown p1
     have r2 := cell_regrown p2
     have r3 := cell_regrown p3
     have cF : ∀ d os, Calls Tryz.prog 79 #[.agg #[.int .i64 nr, .slice ca cs.length cc, .int .i64 rk, .int .i64 re], .agg #[.int .u32 3221225534, .int .u32 kn, .int .u64 b0, .int .u64 b1, .int .u64 b2, .int .u64 b3]] (grow (redrawn wr d) os) fun e w'' => e = .returned (.bool fz) ∧ ∃ p : Regrown, w'' = grow (redrawn wr p.d) p.os := fun d os => Calls.regrown_of (HF1 _ (HIC.out.on (below_regrown _ _ _)))
     have cL : ∀ d os, Calls Tryz.prog 86 #[.agg #[.int .i64 nr, .slice ca cs.length cc, .int .i64 rk, .int .i64 re], .agg #[.string pa0, .int .u32 ip0, .int .i64 po0, .string pa1, .int .u32 ip1, .int .i64 po1, .string pa2, .int .u32 ip2, .int .i64 po2, .string pa3, .int .u32 ip3, .int .i64 po3]] (grow (redrawn wr d) os) fun e w'' => e = .returned (.bool dz) ∧ ∃ p : Regrown, w'' = grow (redrawn wr p.d) p.os := fun d os => Calls.regrown_of (HD1 _ (HIC.out.on (below_regrown _ _ _)))
     have i5 : (0 : Int) ≤ i := by omega
     have i6 : (i : Int) < n := by omega
     clear HF1 HD1 y0 y1 y2 y3 y4 y5 vu0 vu1 vu2 vu3 vu4 vu5 vu6 vu7 vu8 vu9 vu10 vu11 x0 x1 x2 X1 X2 Y0 p0 p1
     go_wp2
     refine wp_region_quiet_below (by kernel_rfl) (by kernel_rfl) ?_
     cases fz with
     | false =>
      rw [if_neg (by simp)] at HG2
      repeat (go_big_quiet_step (first | (go_at_call 79; exact cF _ _) | (go_at_call 86; exact cL _ _)))
      refine wpQuiet_nil ?_
      intro _ hw'
      obtain ⟨⟨dq, osq⟩, hw''⟩ := hw'
      subst hw''
      clear w0 w1 w2 w3 w4 w5 w6 w7 w8 w9 w10 w11 z0 z1 z2 z3 z4 z5 cF cL
      go_wp2
      go_round
      case rel => exact ⟨i + 1, by omega, by go_num, HG2, hide (below_next HB.out (below_regrown _ _ _))⟩
      case measure => simp [intOf]; omega
     | true =>
      cases dz with
      | false =>
       rw [if_neg (by simp)] at HG2
       repeat (go_big_quiet_step (first | (go_at_call 79; exact cF _ _) | (go_at_call 86; exact cL _ _)))
       refine wpQuiet_nil ?_
       intro _ hw'
       obtain ⟨⟨dq, osq⟩, hw''⟩ := hw'
       subst hw''
       clear w0 w1 w2 w3 w4 w5 w6 w7 w8 w9 w10 w11 z0 z1 z2 z3 z4 z5 cF cL
       go_wp2
       go_round
       case rel => exact ⟨i + 1, by omega, by go_num, HG2, hide (below_next HB.out (below_regrown _ _ _))⟩
       case measure => simp [intOf]; omega
      | true =>
       rw [if_pos (by simp)] at HG2
       repeat (go_big_quiet_step (first | (go_at_call 79; exact cF _ _) | (go_at_call 86; exact cL _ _)))
       refine wpQuiet_nil ?_
       intro _ hw'
       obtain ⟨⟨dq, osq⟩, hw''⟩ := hw'
       subst hw''
       clear w0 w1 w2 w3 w4 w5 w6 w7 w8 w9 w10 w11 z0 z1 z2 z3 z4 z5 cF cL
       have hr3 := ((below_regrown wr dq osq).block _ (Array.getElem?_eq_some_iff.1 hr2).1).trans hr2
       go_wp2_with (refine wpList_store_row rfl 24 _ _ rfl (w.heap.size + 3) #[.int .i64 rk, .int .i64 re] rfl rfl 24 _ hr3 size_action rfl (one2 _ _) ?_)
       refine bodyPost_ret (v := .tuple #[.agg #[.int .i64 rk, .int .i64 re], .nilIface]) (results_act rfl _ _ (w.heap.size + 3) #[.int .i64 rk, .int .i64 re] _ rfl rfl rfl (setRow_heap _ _ _ _ _ _ hr3)) rfl ⟨?_, below_setRow (below_next HW.out (below_regrown _ _ _)) (by omega) _⟩
       rw [HV.out, HJ.out, HG2.out]
       rfl
    ·
     obtain rfl : i = n := by omega
     have HG2 := hide (show decideFrom kk vv ⟨ak, ae⟩ rs = ⟨ak, ae⟩ by
      rw [HG.out, List.drop_eq_nil_of_le (by rw [HN.out]; exact Nat.le_refl _), decideFrom])
     have g1 := keep_cell HB.out X1
     have g2 := keep_cell HB.out X2
     go_wp2_with (refine wpList_store_row rfl 24 _ _ rfl (w.heap.size + 3) #[.int .i64 ak, .int .i64 ae] rfl rfl 24 _ hr2 size_action rfl (one2 _ _) ?_)
     refine bodyPost_ret (v := .tuple #[.agg #[.int .i64 ak, .int .i64 ae], .nilIface]) (results_act rfl _ _ (w.heap.size + 3) #[.int .i64 ak, .int .i64 ae] _ rfl rfl rfl (setRow_heap _ _ _ _ _ _ hr2)) rfl ⟨?_, below_setRow HW.out (by omega) _⟩
     rw [HV.out, HJ.out, HG2.out]
     rfl
  ·
   have HJ := hide (show decideR ⟨rs, ⟨ak, ae⟩⟩ ⟨kar, kn, b0, b1, b2, b3⟩ ⟨⟨pa0, ip0, po0⟩, ⟨pa1, ip1, po1⟩, ⟨pa2, ip2, po2⟩, ⟨pa3, ip3, po3⟩⟩ = ⟨3, 0⟩ from if_neg ha)
   have ha' : ¬ (kar : Int) = 3221225534 := by omega
   clear ha vu0 vu1 vu2 vu3 vu4 vu5 vu6 vu7 vu8 vu9 vu10 vu11
   go_enter Tryz.func57, Tryz.ntmps57
   go_wp2_with (first
    | (go_at_call 19; rw [← hV]; clear hV; refine HCK.mono ?_; rintro e X ⟨rfl, hX⟩; have Y0 := keep_cell hX y0; have hr2 : X.heap[w.heap.size + 3]? = some (.cells #[.int .i64 0, .int .i64 0] 24 (0, 0)) := (hX.block _ (by omega)).trans hz)
    | (refine wpList_store_row rfl 24 _ _ rfl (w.heap.size + 3) #[.int .i64 3, .int .i64 0] rfl rfl 24 _ hr2 size_action rfl (one2 _ _) ?_))
   refine bodyPost_ret (v := .tuple #[.agg #[.int .i64 3, .int .i64 0], .nilIface]) (results_act rfl _ _ (w.heap.size + 3) #[.int .i64 3, .int .i64 0] _ rfl rfl rfl (setRow_heap _ _ _ _ _ _ hr2)) rfl ⟨?_, below_setRow (below_next hB hX) (by omega) _⟩
   rw [HV.out, HJ.out]
   rfl
 ·
  have HV := hide (show decideV p k v = .tuple #[actV ⟨0, 0⟩, .iface 82 (.int .i64 (polF p : Nat))] by unfold decideV; rw [if_neg hf, errV_pos hf])
  rw [errV_pos hf] at HCK
  clear hf hpk hk hv HC
  unfold polV klV klC vsV vsC at *
  have x0 := hx 0
  have x1 := hx 1
  have x2 := hx 2
  simp only [List.getElem?_toArray, List.getElem?_cons_zero, List.getElem?_cons_succ] at x0 x1 x2
  clear hx hy hu
  go_enter Tryz.func57, Tryz.ntmps57
  go_wp2_with (first
   | (go_at_call 19; rw [← hV]; clear hV; refine HCK.mono ?_; rintro e X ⟨rfl, hX⟩; have hr2 : X.heap[w.heap.size + 3]? = some (.cells #[.int .i64 0, .int .i64 0] 24 (0, 0)) := (hX.block _ (by omega)).trans hz)
   | (refine wpList_store_row rfl 24 _ _ rfl (w.heap.size + 3) #[.int .i64 0, .int .i64 0] rfl rfl 24 _ hr2 size_action rfl (one2 _ _) ?_))
  refine bodyPost_ret (v := .tuple #[.agg #[.int .i64 0, .int .i64 0], .iface 82 (.int .i64 (polF p : Nat))]) (results_act rfl _ _ (w.heap.size + 3) #[.int .i64 0, .int .i64 0] _ rfl rfl rfl (setRow_heap _ _ _ _ _ _ hr2)) rfl ⟨?_, below_setRow (below_next hB hX) (by omega) _⟩
  rw [HV.out]
  rfl
end Go.Proofs.YtklibmijiecbfaaGreat
