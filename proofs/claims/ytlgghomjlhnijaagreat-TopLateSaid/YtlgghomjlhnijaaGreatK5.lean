/- policy.Judge. -/
import Derived.Test.YtlgghomjlhnijaaGreatK4
import Derived.Test.YtlgghomjlhnijaaGreatK1
import Derived.Laws.Tables
import Derived.Laws.CopyOwn
import Derived.Laws.CopyRow
import Derived.Lib.BufferWrite
import Derived.Laws.MakeOwn
namespace Go.Proofs.YtlgghomjlhnijaaGreat
open Go.RowKit Go.Sort

def judgeFrom (k : KL) (els : ACT) : List RL → Nat → ACT × Nat
  | [], _ => (els, 0)
  | r :: t, i => if fitsB r k then (if deepB r then (⟨4, 0⟩, i) else (r.act, 0)) else judgeFrom k els t (i + 1)
def judgeR (p : POL) (k : KL) : ACT × Nat := if k.arch = 3221225534 then judgeFrom k p.els p.rules 0 else (⟨3, 0⟩, 0)
def decideFrom (k : KL) (v : VS) (els : ACT) : List RL → ACT
  | [] => els
  | r :: t => if fitsB r k && leadsB r v then r.act else decideFrom k v els t
def decideR (p : POL) (k : KL) (v : VS) : ACT := if k.arch = 3221225534 then decideFrom k v p.els p.rules else ⟨3, 0⟩
def verC (a : ACT) (i : Nat) : Array Value := #[.int .i64 a.kind, .int .i64 a.errno, .int .i64 i]
def verV (x : ACT × Nat) : Value := .agg (verC x.1 x.2)
/-- What Judge hands back. -/
def judgeV (p : POL) (k : KL) : Value := .tuple #[if polF p = 0 then verV (judgeR p k) else verV (⟨0, 0⟩, 0), errV (polF p)]
def decideV (p : POL) (k : KL) (v : VS) : Value := .tuple #[if polF p = 0 then actV (decideR p k v) else actV ⟨0, 0⟩, errV (polF p)]
theorem size_ver : (Tryz.prog.info? 101).map (·.size) = some 3 := by kernel_rfl
theorem verC_one (a : ACT) (i : Nat) : (verC a i).all (·.oneCell') = true := by simp [verC, Value.oneCell']
theorem results_ver {fn : Func} {p u : Tmp} (h : fn.results = #[.cell p 101, .tmp u]) (tmps : Array Value) (w : World) (g : Nat) (cs : Array Value) (v : Value) (hs : cs.size = 3)
    (hp : tmps.getD p undef = .pointer (some ⟨g, 0, none⟩)) (hv : tmps.getD u undef = v) (hg : w.heap[g]? = some (.cells cs 101 (0, 0))) :
    (results fn tmps).run Tryz.prog w = .ok (.tuple #[.agg cs, v]) w := by
  rw [results_cell_tmp h, hp, hv]
  have hl := run_loadVar_row (P := Tryz.prog) w g 101 101 cs (0, 0) _ hg Tryz.underlying101 rfl (by rw [hs]; exact size_ver)
  simp [asAddr, hl]
theorem results_act {fn : Func} {p u : Tmp} (h : fn.results = #[.cell p 24, .tmp u]) (tmps : Array Value) (w : World) (g : Nat) (cs : Array Value) (v : Value) (hs : cs.size = 2)
    (hp : tmps.getD p undef = .pointer (some ⟨g, 0, none⟩)) (hv : tmps.getD u undef = v) (hg : w.heap[g]? = some (.cells cs 24 (0, 0))) :
    (results fn tmps).run Tryz.prog w = .ok (.tuple #[.agg cs, v]) w := by
  rw [results_cell_tmp h, hp, hv]
  have hl := run_loadVar_row (P := Tryz.prog) w g 24 24 cs (0, 0) _ hg Tryz.underlying24 rfl (by rw [hs]; exact size_action)
  simp [asAddr, hl]
theorem three_box (w : World) (x y z : Array Value) (tx ty tz : TypeId) : ∃ V, V = ((w.alloc (.cells x tx)).alloc (.cells y ty)).alloc (.cells z tz) ∧ Below w.heap.size w V ∧ V.heap.size = w.heap.size + 3 ∧ (∀ j : Nat, V.cell? ⟨w.heap.size, j, none⟩ = x[j]?) ∧ (∀ j : Nat, V.cell? ⟨w.heap.size + 1, j, none⟩ = y[j]?) ∧ V.heap[w.heap.size + 2]? = some (.cells z tz (0, 0)) := by
  obtain ⟨U, hU, hb, h1, h2⟩ := two_box w x y tx ty
  have hs : U.heap.size = w.heap.size + 2 := by rw [hU, World.size_alloc, World.size_alloc]
  refine ⟨U.alloc (.cells z tz), by rw [hU], below_next hb (box_below _ _), by rw [World.size_alloc, hs], fun j => ?_, fun j => ?_, ?_⟩
  · rw [← h1 j]; exact (bcell (box_below U _)).1 _ j (by omega)
  · rw [← h2 j]; exact (bcell (box_below U _)).1 _ j (by omega)
  · rw [← hs]; exact heap_alloc_new _ _

theorem drop_next {α : Type} {cs : List α} {i : Nat} (h : i < cs.length) : ∃ c, cs[i]? = some c ∧ cs.drop i = c :: cs.drop (i + 1) :=
  ⟨cs[i], List.getElem?_eq_getElem h, (List.getElem_cons_drop h).symm⟩

set_option maxHeartbeats 1000000 in
set_option maxRecDepth 100000 in
theorem judge_any (p : POL) (oa : Option Addr) (cap : Nat) (k : KL) (hk : KlOk k) (w : World) (hp : IsPol oa cap p w) :
    Calls Tryz.prog 45 #[polV p oa cap, klV k] w fun e w' => e = .returned (judgeV p k) ∧ Below w.heap.size w w' := by
  obtain ⟨n, hn⟩ : ∃ n, n = p.rules.length := ⟨_, rfl⟩
  obtain ⟨V, hV, hB, hVs, hx, hy, hz⟩ := three_box w #[.slice oa p.rules.length cap, .int .i64 p.els.kind, .int .i64 p.els.errno] (klC k) #[.int .i64 0, .int .i64 0, .int .i64 0] 26 40 101
  have HCK := pcheck_any p oa cap V (hp.on hB)
  have HC := hide (pol_parts hp n hn)
  have hmax : n ≤ 9223372036854775807 := by have h1 := hp.le; have h2 := hp.cap; unfold maxLen at h2; omega
  have hpk := hp.ok
  clear hp
  unfold klC at hV hy
  by_cases hf : polF p = 0
  · have hok := pol_ok hf hpk
    have HV := hide (show judgeV p k = .tuple #[verV (judgeR p k), .nilIface] by unfold judgeV; rw [if_pos hf, hf]; rfl)
    rw [hf, errV_zero] at HCK
    have HRU := hide hok.rules
    have h12 : n ≤ 12 := by have := hok.few; omega
    have HFT := fun r hr oa cap X hc => fits_any r hr oa cap k hk X hc
    have HKL := hide hk
    clear hf hpk hok hk
    obtain ⟨rs, ⟨ak, ae⟩⟩ := p
    have HL := hide (show ∀ i, i < n → ∃ c, rs[i]? = some c ∧ rs.drop i = c :: rs.drop (i + 1) from fun i h => drop_next (by simp only at hn; omega))
    unfold polV klV klC at *
    simp only at *
    rw [← hn] at hV hx HCK ⊢
    have HN := hide hn
    clear hn
    obtain ⟨kar, kn, b0, b1, b2, b3⟩ := k
    simp only at *
    have x0 := hx 0
    have x1 := hx 1
    have x2 := hx 2
    have y0 := hy 0
    have y1 := hy 1
    have y2 := hy 2
    have y3 := hy 3
    have y4 := hy 4
    have y5 := hy 5
    simp only [List.getElem?_toArray, List.getElem?_cons_zero, List.getElem?_cons_succ] at x0 x1 x2 y0 y1 y2 y3 y4 y5
    clear hx hy
    by_cases ha : kar = 3221225534
    · have HJ := hide (show judgeR ⟨rs, ⟨ak, ae⟩⟩ ⟨kar, kn, b0, b1, b2, b3⟩ = judgeFrom ⟨kar, kn, b0, b1, b2, b3⟩ ⟨ak, ae⟩ rs 0 from if_pos ha)
      have ha' : (kar : Int) = 3221225534 := by omega
      rw [ha'] at hV y0 ⊢
      have HKA := hide ha'
      clear ha ha'
      go_enter Tryz.func45, Tryz.ntmps45
      go_wp2_with (go_at_call 20; rw [← hV]; clear hV; refine HCK.mono ?_; rintro e X ⟨rfl, hX⟩; have X0 := keep_cell hX x0; have X1 := keep_cell hX x1; have X2 := keep_cell hX x2; have Y0 := keep_cell hX y0; have Y1 := keep_cell hX y1; have Y2 := keep_cell hX y2; have Y3 := keep_cell hX y3; have Y4 := keep_cell hX y4; have Y5 := keep_cell hX y5)
      go_loopw [23] (fun I w' => ∃ i : Nat, i ≤ n ∧ I = .int .i64 i ∧ Hid (judgeFrom ⟨kar, kn, b0, b1, b2, b3⟩ ⟨ak, ae⟩ rs 0 = judgeFrom ⟨kar, kn, b0, b1, b2, b3⟩ ⟨ak, ae⟩ (rs.drop i) i) ∧ Hid (Below X.heap.size X w')) (fun I _ => n - (intOf I).toNat)
      case atStart => exact ⟨0, by omega, rfl, hide rfl, hide (Below.refl _ _)⟩
      case round =>
        obtain ⟨i, hi, rfl, HG, HB⟩ := hrel
        have HW := hide (below_next (below_next hB hX) HB.out)
        have HVW := hide (below_next hX HB.out)
        have hsw : w.heap.size + 2 < V.heap.size := by omega
        by_cases hlt : i < n
        · obtain ⟨c, hcs, hdr⟩ := HL.out i hlt
          obtain ⟨b, off, rfl, hbw, HA⟩ := HC.out (by omega)
          obtain ⟨ca, cc, hR0⟩ := HA.out i c hcs
          have hR := hR0.on hbw HW.out
          clear hR0
          have hro := HRU.out c (List.mem_of_getElem? hcs)
          have HF1 := HFT c hro ca cc
          have HD1 := fun X hc => isDeep_any c hro.few ca cc X hc
          have HIC := hide hR.conds
          have HG2 := hide (show judgeFrom ⟨kar, kn, b0, b1, b2, b3⟩ ⟨ak, ae⟩ rs 0 = if fitsB c ⟨kar, kn, b0, b1, b2, b3⟩ then (if deepB c then (⟨4, 0⟩, i) else (c.act, 0)) else judgeFrom ⟨kar, kn, b0, b1, b2, b3⟩ ⟨ak, ae⟩ (rs.drop (i + 1)) (i + 1) by rw [HG.out, hdr, judgeFrom])
          obtain ⟨fz, hfz⟩ : ∃ z, z = fitsB c ⟨kar, kn, b0, b1, b2, b3⟩ := ⟨_, rfl⟩
          obtain ⟨dz, hdz⟩ : ∃ z, z = deepB c := ⟨_, rfl⟩
          rw [← hfz] at HF1 HG2
          rw [← hdz] at HD1 HG2
          obtain ⟨p0, p1, p2, p3, _, _, _, _⟩ := hR
          clear hfz hdz hro hcs hdr HG
          obtain ⟨nr, cs, ⟨rk, re⟩⟩ := c
          unfold ruleV at HF1 HD1
          simp only at p0 p1 p2 p3 HF1 HD1 HG2 HIC
          simp only [HKA.out] at HF1
          have g0 := keep_cell HB.out X0
          have z0 := keep_cell HB.out Y0
          have z1 := keep_cell HB.out Y1
          have z2 := keep_cell HB.out Y2
          have z3 := keep_cell HB.out Y3
          have z4 := keep_cell HB.out Y4
          have z5 := keep_cell HB.out Y5
          have lw : w.heap.size + 1 < wr.heap.size := block_lt_of_cell z0
          cases fz with
          | false =>
            rw [if_neg (by decide)] at HG2
            go_wp2_with (go_at_call 28; refine (HF1 _ (HIC.out.on (box_below _ _))).mono ?_; rintro e w1 ⟨rfl, hb1⟩)
            go_round
            case rel => exact ⟨i + 1, by omega, by go_num, HG2, hide (below_next HB.out (below_next (box_below _ _) hb1))⟩
            case measure => simp [intOf]; omega
          | true =>
            rw [if_pos rfl] at HG2
            obtain ⟨W1, hW1, hW1b, _, hW1c⟩ := one_box wr #[.int .i64 nr, .slice ca cs.length cc, .int .i64 rk, .int .i64 re] 67
            have r0 := hW1c 0
            have r1 := hW1c 1
            have r2 := hW1c 2
            have r3 := hW1c 3
            simp only [List.getElem?_toArray, List.getElem?_cons_zero, List.getElem?_cons_succ] at r0 r1 r2 r3
            clear hW1c
            cases dz with
            | true =>
              rw [if_pos rfl] at HG2
              go_wp2_with (first
                | (go_at_call 28; rw [← hW1]; refine (HF1 _ (HIC.out.on hW1b)).mono ?_; rintro e w1 ⟨rfl, hb1⟩; have s0 := keep_cell hb1 r0; have s1 := keep_cell hb1 r1; have s2 := keep_cell hb1 r2; have s3 := keep_cell hb1 r3; have HB1 := hide hb1; clear hb1)
                | (go_at_call 67; refine (HD1 _ ((HIC.out.on hW1b).on HB1.out)).mono ?_; rintro e w2 ⟨rfl, hb2⟩; have hr2 : w2.heap[w.heap.size + 2]? = some (.cells #[.int .i64 0, .int .i64 0, .int .i64 0] 101 (0, 0)) := ((below_next HVW.out (below_next hW1b (below_next HB1.out hb2))).block _ hsw).trans hz)
                | (refine wpList_store_row rfl 101 _ _ rfl (w.heap.size + 2) (verC ⟨4, 0⟩ i) rfl rfl 101 _ hr2 size_ver rfl (verC_one _ _) ?_))
              refine bodyPost_ret (v := .tuple #[.agg (verC ⟨4, 0⟩ i), .nilIface]) (results_ver rfl _ _ (w.heap.size + 2) (verC ⟨4, 0⟩ i) _ rfl rfl rfl (setRow_heap _ _ _ _ _ _ hr2)) rfl ⟨?_, below_setRow (below_next HW.out (below_next hW1b (below_next HB1.out hb2))) (by omega) _⟩
              rw [HV.out, HJ.out, HG2.out]
              rfl
            | false =>
              rw [if_neg (by decide)] at HG2
              go_wp2_with (first
                | (go_at_call 28; rw [← hW1]; refine (HF1 _ (HIC.out.on hW1b)).mono ?_; rintro e w1 ⟨rfl, hb1⟩; have s0 := keep_cell hb1 r0; have s1 := keep_cell hb1 r1; have s2 := keep_cell hb1 r2; have s3 := keep_cell hb1 r3; have HB1 := hide hb1; clear hb1)
                | (go_at_call 67; refine (HD1 _ ((HIC.out.on hW1b).on HB1.out)).mono ?_; rintro e w2 ⟨rfl, hb2⟩; have t2 := keep_cell hb2 s2; have t3 := keep_cell hb2 s3; have hr2 : w2.heap[w.heap.size + 2]? = some (.cells #[.int .i64 0, .int .i64 0, .int .i64 0] 101 (0, 0)) := ((below_next HVW.out (below_next hW1b (below_next HB1.out hb2))).block _ hsw).trans hz)
                | (refine wpList_store_row rfl 101 _ _ rfl (w.heap.size + 2) (verC ⟨rk, re⟩ 0) rfl rfl 101 _ hr2 size_ver rfl (verC_one _ _) ?_))
              refine bodyPost_ret (v := .tuple #[.agg (verC ⟨rk, re⟩ 0), .nilIface]) (results_ver rfl _ _ (w.heap.size + 2) (verC ⟨rk, re⟩ 0) _ rfl rfl rfl (setRow_heap _ _ _ _ _ _ hr2)) rfl ⟨?_, below_setRow (below_next HW.out (below_next hW1b (below_next HB1.out hb2))) (by omega) _⟩
              rw [HV.out, HJ.out, HG2.out]
              rfl
        · obtain rfl : i = n := by omega
          have HG2 := hide (show judgeFrom ⟨kar, kn, b0, b1, b2, b3⟩ ⟨ak, ae⟩ rs 0 = (⟨ak, ae⟩, 0) by
            rw [HG.out, List.drop_eq_nil_of_le (by rw [HN.out]; exact Nat.le_refl _), judgeFrom])
          have g1 := keep_cell HB.out X1
          have g2 := keep_cell HB.out X2
          have hr2 : wr.heap[w.heap.size + 2]? = some (.cells #[.int .i64 0, .int .i64 0, .int .i64 0] 101 (0, 0)) := (HVW.out.block _ hsw).trans hz
          go_wp2_with (refine wpList_store_row rfl 101 _ _ rfl (w.heap.size + 2) (verC ⟨ak, ae⟩ 0) rfl rfl 101 _ hr2 size_ver rfl (verC_one _ _) ?_)
          refine bodyPost_ret (v := .tuple #[.agg (verC ⟨ak, ae⟩ 0), .nilIface]) (results_ver rfl _ _ (w.heap.size + 2) (verC ⟨ak, ae⟩ 0) _ rfl rfl rfl (setRow_heap _ _ _ _ _ _ hr2)) rfl ⟨?_, below_setRow HW.out (by omega) _⟩
          rw [HV.out, HJ.out, HG2.out]
          rfl
    · have HJ := hide (show judgeR ⟨rs, ⟨ak, ae⟩⟩ ⟨kar, kn, b0, b1, b2, b3⟩ = (⟨3, 0⟩, 0) from if_neg ha)
      have ha' : ¬ (kar : Int) = 3221225534 := by omega
      clear ha
      go_enter Tryz.func45, Tryz.ntmps45
      go_wp2_with (first
        | (go_at_call 20; rw [← hV]; clear hV; refine HCK.mono ?_; rintro e X ⟨rfl, hX⟩; have Y0 := keep_cell hX y0; have hr2 : X.heap[w.heap.size + 2]? = some (.cells #[.int .i64 0, .int .i64 0, .int .i64 0] 101 (0, 0)) := (hX.block _ (by omega)).trans hz)
        | (refine wpList_store_row rfl 101 _ _ rfl (w.heap.size + 2) (verC ⟨3, 0⟩ 0) rfl rfl 101 _ hr2 size_ver rfl (verC_one _ _) ?_))
      refine bodyPost_ret (v := .tuple #[.agg (verC ⟨3, 0⟩ 0), .nilIface]) (results_ver rfl _ _ (w.heap.size + 2) (verC ⟨3, 0⟩ 0) _ rfl rfl rfl (setRow_heap _ _ _ _ _ _ hr2)) rfl ⟨?_, below_setRow (below_next hB hX) (by omega) _⟩
      rw [HV.out, HJ.out]
      rfl
  · have HV := hide (show judgeV p k = .tuple #[verV (⟨0, 0⟩, 0), .iface 93 (.int .i64 (polF p : Nat))] by unfold judgeV; rw [if_neg hf, errV_pos hf])
    rw [errV_pos hf] at HCK
    clear hf hpk hk HC
    unfold polV klV klC at *
    have x0 := hx 0
    have x1 := hx 1
    have x2 := hx 2
    simp only [List.getElem?_toArray, List.getElem?_cons_zero, List.getElem?_cons_succ] at x0 x1 x2
    clear hx hy
    go_enter Tryz.func45, Tryz.ntmps45
    go_wp2_with (first
      | (go_at_call 20; rw [← hV]; clear hV; refine HCK.mono ?_; rintro e X ⟨rfl, hX⟩; have hr2 : X.heap[w.heap.size + 2]? = some (.cells #[.int .i64 0, .int .i64 0, .int .i64 0] 101 (0, 0)) := (hX.block _ (by omega)).trans hz)
      | (refine wpList_store_row rfl 101 _ _ rfl (w.heap.size + 2) (verC ⟨0, 0⟩ 0) rfl rfl 101 _ hr2 size_ver rfl (verC_one _ _) ?_))
    refine bodyPost_ret (v := .tuple #[.agg (verC ⟨0, 0⟩ 0), .iface 93 (.int .i64 (polF p : Nat))]) (results_ver rfl _ _ (w.heap.size + 2) (verC ⟨0, 0⟩ 0) _ rfl rfl rfl (setRow_heap _ _ _ _ _ _ hr2)) rfl ⟨?_, below_setRow (below_next hB hX) (by omega) _⟩
    rw [HV.out]
    rfl
end Go.Proofs.YtlgghomjlhnijaaGreat

/- policy.Decide. -/
namespace Go.Proofs.YtlgghomjlhnijaaGreat
open Go.RowKit Go.Sort

theorem four_box (w : World) (x y z u : Array Value) (tx ty tz tu : TypeId) : ∃ V, V = (((w.alloc (.cells x tx)).alloc (.cells y ty)).alloc (.cells z tz)).alloc (.cells u tu) ∧ Below w.heap.size w V ∧ V.heap.size = w.heap.size + 4 ∧ (∀ j : Nat, V.cell? ⟨w.heap.size, j, none⟩ = x[j]?) ∧ (∀ j : Nat, V.cell? ⟨w.heap.size + 1, j, none⟩ = y[j]?) ∧ (∀ j : Nat, V.cell? ⟨w.heap.size + 2, j, none⟩ = z[j]?) ∧ V.heap[w.heap.size + 3]? = some (.cells u tu (0, 0)) := by
  obtain ⟨U, hU, hb, hs, h1, h2, h3⟩ := three_box w x y z tx ty tz
  refine ⟨U.alloc (.cells u tu), by rw [hU], below_next hb (box_below _ _), by rw [World.size_alloc, hs], fun j => ?_, fun j => ?_, fun j => ?_, ?_⟩
  · rw [← h1 j]; exact (bcell (box_below U _)).1 _ j (by omega)
  · rw [← h2 j]; exact (bcell (box_below U _)).1 _ j (by omega)
  · rw [(bcell (box_below U _)).1 _ j (by omega)]; exact cell_of_row _ _ j _ _ _ h3
  · rw [← hs]; exact heap_alloc_new _ _

set_option maxHeartbeats 2000000 in
set_option maxRecDepth 100000 in
theorem decide_any (p : POL) (oa : Option Addr) (cap : Nat) (k : KL) (hk : KlOk k) (v : VS) (hv : VsOk v) (w : World) (hp : IsPol oa cap p w) :
    Calls Tryz.prog 14 #[polV p oa cap, klV k, vsV v] w fun e w' => e = .returned (decideV p k v) ∧ Below w.heap.size w w' := by
  obtain ⟨n, hn⟩ : ∃ n, n = p.rules.length := ⟨_, rfl⟩
  obtain ⟨V, hV, hB, hVs, hx, hy, hu, hz⟩ := four_box w #[.slice oa p.rules.length cap, .int .i64 p.els.kind, .int .i64 p.els.errno] (klC k) (vsC v) #[.int .i64 0, .int .i64 0] 26 40 52 24
  have HCK := pcheck_any p oa cap V (hp.on hB)
  have HC := hide (pol_parts hp n hn)
  have hmax : n ≤ 9223372036854775807 := by have h1 := hp.le; have h2 := hp.cap; unfold maxLen at h2; omega
  have hpk := hp.ok
  clear hp
  unfold klC at hV hy
  unfold vsC at hV hu
  by_cases hf : polF p = 0
  · have hok := pol_ok hf hpk
    have HV := hide (show decideV p k v = .tuple #[actV (decideR p k v), .nilIface] by unfold decideV; rw [if_pos hf, hf]; rfl)
    rw [hf, errV_zero] at HCK
    have HRU := hide hok.rules
    have h12 : n ≤ 12 := by have := hok.few; omega
    have HFT := fun r hr oa cap X hc => fits_any r hr oa cap k hk X hc
    have HLT := fun r hr oa cap X hc => leads_any r hr oa cap v hv X hc
    clear hf hpk hok hk hv
    obtain ⟨rs, ⟨ak, ae⟩⟩ := p
    have HL := hide (show ∀ i, i < n → ∃ c, rs[i]? = some c ∧ rs.drop i = c :: rs.drop (i + 1) from fun i h => drop_next (by simp only at hn; omega))
    unfold polV klV klC vsV vsC at *
    simp only at *
    rw [← hn] at hV hx HCK ⊢
    have HN := hide hn
    clear hn
    obtain ⟨kar, kn, b0, b1, b2, b3⟩ := k
    obtain ⟨⟨pa0, ip0, po0⟩, ⟨pa1, ip1, po1⟩, ⟨pa2, ip2, po2⟩, ⟨pa3, ip3, po3⟩⟩ := v
    simp only at *
    have x0 := hx 0
    have x1 := hx 1
    have x2 := hx 2
    have y0 := hy 0
    have y1 := hy 1
    have y2 := hy 2
    have y3 := hy 3
    have y4 := hy 4
    have y5 := hy 5
    have vu0 := hu 0
    have vu1 := hu 1
    have vu2 := hu 2
    have vu3 := hu 3
    have vu4 := hu 4
    have vu5 := hu 5
    have vu6 := hu 6
    have vu7 := hu 7
    have vu8 := hu 8
    have vu9 := hu 9
    have vu10 := hu 10
    have vu11 := hu 11
    simp only [List.getElem?_toArray, List.getElem?_cons_zero, List.getElem?_cons_succ] at x0 x1 x2 y0 y1 y2 y3 y4 y5 vu0 vu1 vu2 vu3 vu4 vu5 vu6 vu7 vu8 vu9 vu10 vu11
    clear hx hy hu
    by_cases ha : kar = 3221225534
    · have HJ := hide (show decideR ⟨rs, ⟨ak, ae⟩⟩ ⟨kar, kn, b0, b1, b2, b3⟩ ⟨⟨pa0, ip0, po0⟩, ⟨pa1, ip1, po1⟩, ⟨pa2, ip2, po2⟩, ⟨pa3, ip3, po3⟩⟩ = decideFrom ⟨kar, kn, b0, b1, b2, b3⟩ ⟨⟨pa0, ip0, po0⟩, ⟨pa1, ip1, po1⟩, ⟨pa2, ip2, po2⟩, ⟨pa3, ip3, po3⟩⟩ ⟨ak, ae⟩ rs from if_pos ha)
      have ha' : (kar : Int) = 3221225534 := by omega
      rw [ha'] at hV y0 ⊢
      have HKA := hide ha'
      clear ha ha'
      obtain ⟨kk, hkk⟩ : ∃ k : KL, k = ⟨kar, kn, b0, b1, b2, b3⟩ := ⟨_, rfl⟩
      obtain ⟨vv, hvv⟩ : ∃ v : VS, v = ⟨⟨pa0, ip0, po0⟩, ⟨pa1, ip1, po1⟩, ⟨pa2, ip2, po2⟩, ⟨pa3, ip3, po3⟩⟩ := ⟨_, rfl⟩
      rw [← hkk, ← hvv] at HJ HV ⊢
      have HKK := hide hkk
      have HVV := hide hvv
      clear hkk hvv
      go_enter Tryz.func14, Tryz.ntmps14
      go_wp2_with (go_at_call 20; rw [← hV]; clear hV; refine HCK.mono ?_; rintro e X ⟨rfl, hX⟩; have X0 := keep_cell hX x0; have X1 := keep_cell hX x1; have X2 := keep_cell hX x2; have Y0 := keep_cell hX y0; refine Hid.out ?_)
      refine hide ?_
      go_wp2
      go_loopw [23] (fun I w' => ∃ i : Nat, i ≤ n ∧ I = .int .i64 i ∧ Hid (decideFrom kk vv ⟨ak, ae⟩ rs = decideFrom kk vv ⟨ak, ae⟩ (rs.drop i)) ∧ Hid (Below X.heap.size X w')) (fun I _ => n - (intOf I).toNat)
      case atStart => exact ⟨0, by omega, rfl, hide rfl, hide (Below.refl _ _)⟩
      case round =>
        obtain ⟨i, hi, rfl, HG, HB⟩ := hrel
        have HW := hide (below_next (below_next hB hX) HB.out)
        have HVW := hide (below_next hX HB.out)
        have hsw : w.heap.size + 3 < V.heap.size := by omega
        have hr2 : wr.heap[w.heap.size + 3]? = some (.cells #[.int .i64 0, .int .i64 0] 24 (0, 0)) := (HVW.out.block _ hsw).trans hz
        by_cases hlt : i < n
        · obtain ⟨c, hcs, hdr⟩ := HL.out i hlt
          obtain ⟨b, off, rfl, hbw, HA⟩ := HC.out (by omega)
          obtain ⟨ca, cc, hR0⟩ := HA.out i c hcs
          have hR := hR0.on hbw HW.out
          clear hR0
          have hro := HRU.out c (List.mem_of_getElem? hcs)
          have HF1 := HFT c hro ca cc
          have HD1 := HLT c hro ca cc
          have HIC := hide hR.conds
          have HG2 := hide (show decideFrom kk vv ⟨ak, ae⟩ rs = if fitsB c kk && leadsB c vv then c.act else decideFrom kk vv ⟨ak, ae⟩ (rs.drop (i + 1)) by rw [HG.out, hdr, decideFrom])
          rw [← HKK.out] at HF1
          rw [← HVV.out] at HD1
          obtain ⟨fz, hfz⟩ : ∃ z, z = fitsB c kk := ⟨_, rfl⟩
          obtain ⟨dz, hdz⟩ : ∃ z, z = leadsB c vv := ⟨_, rfl⟩
          rw [← hfz] at HF1 HG2
          rw [← hdz] at HD1 HG2
          obtain ⟨p0, p1, p2, p3, _, _, _, _⟩ := hR
          clear hfz hdz hro hcs hdr HG
          obtain ⟨nr, cs, ⟨rk, re⟩⟩ := c
          unfold ruleV at HF1 HD1
          simp only at p0 p1 p2 p3 HF1 HD1 HG2 HIC
          simp only [HKA.out] at HF1
          have g0 := cell_regrown (keep_cell HB.out X0)
          have z0 := cell_regrown (keep_cell HVW.out y0)
          have z1 := cell_regrown (keep_cell HVW.out y1)
          have z2 := cell_regrown (keep_cell HVW.out y2)
          have z3 := cell_regrown (keep_cell HVW.out y3)
          have z4 := cell_regrown (keep_cell HVW.out y4)
          have z5 := cell_regrown (keep_cell HVW.out y5)
          have w0 := cell_regrown (keep_cell HVW.out vu0)
          have w1 := cell_regrown (keep_cell HVW.out vu1)
          have w2 := cell_regrown (keep_cell HVW.out vu2)
          have w3 := cell_regrown (keep_cell HVW.out vu3)
          have w4 := cell_regrown (keep_cell HVW.out vu4)
          have w5 := cell_regrown (keep_cell HVW.out vu5)
          have w6 := cell_regrown (keep_cell HVW.out vu6)
          have w7 := cell_regrown (keep_cell HVW.out vu7)
          have w8 := cell_regrown (keep_cell HVW.out vu8)
          have w9 := cell_regrown (keep_cell HVW.out vu9)
          have w10 := cell_regrown (keep_cell HVW.out vu10)
          have w11 := cell_regrown (keep_cell HVW.out vu11)
          have r0 := cell_regrown p0
          have r1 := cell_regrown p1
          have r2 := cell_regrown p2
          have r3 := cell_regrown p3
          have cF : ∀ d os, Calls Tryz.prog 28 #[.agg #[.int .i64 nr, .slice ca cs.length cc, .int .i64 rk, .int .i64 re], .agg #[.int .u32 3221225534, .int .u32 kn, .int .u64 b0, .int .u64 b1, .int .u64 b2, .int .u64 b3]] (grow (redrawn wr d) os) fun e w'' => e = .returned (.bool fz) ∧ ∃ p : Regrown, w'' = grow (redrawn wr p.d) p.os := fun d os => Calls.regrown_of (HF1 _ (HIC.out.on (below_regrown _ _ _)))
          have cL : ∀ d os, Calls Tryz.prog 29 #[.agg #[.int .i64 nr, .slice ca cs.length cc, .int .i64 rk, .int .i64 re], .agg #[.string pa0, .int .u32 ip0, .int .i64 po0, .string pa1, .int .u32 ip1, .int .i64 po1, .string pa2, .int .u32 ip2, .int .i64 po2, .string pa3, .int .u32 ip3, .int .i64 po3]] (grow (redrawn wr d) os) fun e w'' => e = .returned (.bool dz) ∧ ∃ p : Regrown, w'' = grow (redrawn wr p.d) p.os := fun d os => Calls.regrown_of (HD1 _ (HIC.out.on (below_regrown _ _ _)))
          have i5 : (0 : Int) ≤ i := by omega
          have i6 : (i : Int) < n := by omega
          clear HF1 HD1 y0 y1 y2 y3 y4 y5 vu0 vu1 vu2 vu3 vu4 vu5 vu6 vu7 vu8 vu9 vu10 vu11 x0 x1 x2 X1 X2 Y0 p0 p1
          go_wp2
          refine wp_region_quiet_below (by kernel_rfl) (by kernel_rfl) ?_
          cases fz with
          | false =>
            rw [if_neg (by simp)] at HG2
            repeat (go_big_quiet_step (first | (go_at_call 28; exact cF _ _) | (go_at_call 29; exact cL _ _)))
            refine wpQuiet_nil ?_
            intro _ hw'
            obtain ⟨⟨dq, osq⟩, hw''⟩ := hw'
            subst hw''
            clear w0 w1 w2 w3 w4 w5 w6 w7 w8 w9 w10 w11 z0 z1 z2 z3 z4 z5 cF cL
            go_wp2
            go_round
            case rel => exact ⟨i + 1, by omega, by go_num, HG2, hide (below_next HB.out (below_regrown _ _ _))⟩
            case measure => simp [intOf]; omega
          | true =>
            cases dz with
            | false =>
              rw [if_neg (by simp)] at HG2
              repeat (go_big_quiet_step (first | (go_at_call 28; exact cF _ _) | (go_at_call 29; exact cL _ _)))
              refine wpQuiet_nil ?_
              intro _ hw'
              obtain ⟨⟨dq, osq⟩, hw''⟩ := hw'
              subst hw''
              clear w0 w1 w2 w3 w4 w5 w6 w7 w8 w9 w10 w11 z0 z1 z2 z3 z4 z5 cF cL
              go_wp2
              go_round
              case rel => exact ⟨i + 1, by omega, by go_num, HG2, hide (below_next HB.out (below_regrown _ _ _))⟩
              case measure => simp [intOf]; omega
            | true =>
              rw [if_pos (by simp)] at HG2
              repeat (go_big_quiet_step (first | (go_at_call 28; exact cF _ _) | (go_at_call 29; exact cL _ _)))
              refine wpQuiet_nil ?_
              intro _ hw'
              obtain ⟨⟨dq, osq⟩, hw''⟩ := hw'
              subst hw''
              clear w0 w1 w2 w3 w4 w5 w6 w7 w8 w9 w10 w11 z0 z1 z2 z3 z4 z5 cF cL
              have hr3 := ((below_regrown wr dq osq).block _ (Array.getElem?_eq_some_iff.1 hr2).1).trans hr2
              go_wp2_with (refine wpList_store_row rfl 24 _ _ rfl (w.heap.size + 3) #[.int .i64 rk, .int .i64 re] rfl rfl 24 _ hr3 size_action rfl (one2 _ _) ?_)
              refine bodyPost_ret (v := .tuple #[.agg #[.int .i64 rk, .int .i64 re], .nilIface]) (results_act rfl _ _ (w.heap.size + 3) #[.int .i64 rk, .int .i64 re] _ rfl rfl rfl (setRow_heap _ _ _ _ _ _ hr3)) rfl ⟨?_, below_setRow (below_next HW.out (below_regrown _ _ _)) (by omega) _⟩
              rw [HV.out, HJ.out, HG2.out]
              rfl
        · obtain rfl : i = n := by omega
          have HG2 := hide (show decideFrom kk vv ⟨ak, ae⟩ rs = ⟨ak, ae⟩ by
            rw [HG.out, List.drop_eq_nil_of_le (by rw [HN.out]; exact Nat.le_refl _), decideFrom])
          have g1 := keep_cell HB.out X1
          have g2 := keep_cell HB.out X2
          go_wp2_with (refine wpList_store_row rfl 24 _ _ rfl (w.heap.size + 3) #[.int .i64 ak, .int .i64 ae] rfl rfl 24 _ hr2 size_action rfl (one2 _ _) ?_)
          refine bodyPost_ret (v := .tuple #[.agg #[.int .i64 ak, .int .i64 ae], .nilIface]) (results_act rfl _ _ (w.heap.size + 3) #[.int .i64 ak, .int .i64 ae] _ rfl rfl rfl (setRow_heap _ _ _ _ _ _ hr2)) rfl ⟨?_, below_setRow HW.out (by omega) _⟩
          rw [HV.out, HJ.out, HG2.out]
          rfl
    · have HJ := hide (show decideR ⟨rs, ⟨ak, ae⟩⟩ ⟨kar, kn, b0, b1, b2, b3⟩ ⟨⟨pa0, ip0, po0⟩, ⟨pa1, ip1, po1⟩, ⟨pa2, ip2, po2⟩, ⟨pa3, ip3, po3⟩⟩ = ⟨3, 0⟩ from if_neg ha)
      have ha' : ¬ (kar : Int) = 3221225534 := by omega
      clear ha vu0 vu1 vu2 vu3 vu4 vu5 vu6 vu7 vu8 vu9 vu10 vu11
      go_enter Tryz.func14, Tryz.ntmps14
      go_wp2_with (first
        | (go_at_call 20; rw [← hV]; clear hV; refine HCK.mono ?_; rintro e X ⟨rfl, hX⟩; have Y0 := keep_cell hX y0; have hr2 : X.heap[w.heap.size + 3]? = some (.cells #[.int .i64 0, .int .i64 0] 24 (0, 0)) := (hX.block _ (by omega)).trans hz)
        | (refine wpList_store_row rfl 24 _ _ rfl (w.heap.size + 3) #[.int .i64 3, .int .i64 0] rfl rfl 24 _ hr2 size_action rfl (one2 _ _) ?_))
      refine bodyPost_ret (v := .tuple #[.agg #[.int .i64 3, .int .i64 0], .nilIface]) (results_act rfl _ _ (w.heap.size + 3) #[.int .i64 3, .int .i64 0] _ rfl rfl rfl (setRow_heap _ _ _ _ _ _ hr2)) rfl ⟨?_, below_setRow (below_next hB hX) (by omega) _⟩
      rw [HV.out, HJ.out]
      rfl
  · have HV := hide (show decideV p k v = .tuple #[actV ⟨0, 0⟩, .iface 93 (.int .i64 (polF p : Nat))] by unfold decideV; rw [if_neg hf, errV_pos hf])
    rw [errV_pos hf] at HCK
    clear hf hpk hk hv HC
    unfold polV klV klC vsV vsC at *
    have x0 := hx 0
    have x1 := hx 1
    have x2 := hx 2
    simp only [List.getElem?_toArray, List.getElem?_cons_zero, List.getElem?_cons_succ] at x0 x1 x2
    clear hx hy hu
    go_enter Tryz.func14, Tryz.ntmps14
    go_wp2_with (first
      | (go_at_call 20; rw [← hV]; clear hV; refine HCK.mono ?_; rintro e X ⟨rfl, hX⟩; have hr2 : X.heap[w.heap.size + 3]? = some (.cells #[.int .i64 0, .int .i64 0] 24 (0, 0)) := (hX.block _ (by omega)).trans hz)
      | (refine wpList_store_row rfl 24 _ _ rfl (w.heap.size + 3) #[.int .i64 0, .int .i64 0] rfl rfl 24 _ hr2 size_action rfl (one2 _ _) ?_))
    refine bodyPost_ret (v := .tuple #[.agg #[.int .i64 0, .int .i64 0], .iface 93 (.int .i64 (polF p : Nat))]) (results_act rfl _ _ (w.heap.size + 3) #[.int .i64 0, .int .i64 0] _ rfl rfl rfl (setRow_heap _ _ _ _ _ _ hr2)) rfl ⟨?_, below_setRow (below_next hB hX) (by omega) _⟩
    rw [HV.out]
    rfl
end Go.Proofs.YtlgghomjlhnijaaGreat

/- What judging by registers tells of deciding. -/
namespace Go.Proofs.YtlgghomjlhnijaaGreat

theorem act_kind {a : ACT} (h : actF a = 0) : a.kind ≠ 4 := by
  rcases act_cases h with rfl | rfl | ⟨n, _, _, rfl⟩ <;> simp
theorem num_lead {c : CD} (h : numB c = true) (v : VS) : leadB v c = true := by
  unfold numB kindOp at h
  unfold leadB
  split at h
  · cases h
  · rename_i h8
    rw [if_neg h8]
    split at h
    · cases h
    · rename_i h9
      rw [if_neg h9]
theorem flat_leads {r : RL} (h : deepB r = false) (v : VS) : leadsB r v = true := by
  unfold leadsB
  rw [List.all_eq_true]
  intro c hc
  apply num_lead
  unfold deepB at h
  rw [List.any_eq_false] at h
  have := h c hc
  simpa using this
theorem decide_kind (k : KL) (v : VS) (els : ACT) (he : actF els = 0) : ∀ rs : List RL, (∀ r ∈ rs, actF r.act = 0) → (decideFrom k v els rs).kind ≠ 4
  | [], _ => act_kind he
  | r :: t, h => by
    rw [decideFrom]
    split
    · exact act_kind (h r (List.mem_cons_self ..))
    · exact decide_kind k v els he t fun x hx => h x (List.mem_cons_of_mem _ hx)
theorem judge_decide (k : KL) (v : VS) (els : ACT) (he : actF els = 0) : ∀ (rs : List RL) (i : Nat), (∀ r ∈ rs, actF r.act = 0) →
    ((judgeFrom k els rs i).1.kind = 4 ∧ i ≤ (judgeFrom k els rs i).2 ∧ (judgeFrom k els rs i).2 < i + rs.length ∧ decideFrom k v els (rs.drop ((judgeFrom k els rs i).2 - i)) = decideFrom k v els rs) ∨
    ((judgeFrom k els rs i).1.kind ≠ 4 ∧ (judgeFrom k els rs i).2 = 0 ∧ decideFrom k v els rs = (judgeFrom k els rs i).1)
  | [], i, _ => .inr ⟨act_kind he, rfl, rfl⟩
  | r :: t, i, h => by
    rw [judgeFrom]
    by_cases hf : fitsB r k = true
    · rw [if_pos hf]
      cases hd : deepB r with
      | true => exact .inl ⟨rfl, Nat.le_refl _, by simp, by simp⟩
      | false =>
        refine .inr ⟨act_kind (h r (List.mem_cons_self ..)), rfl, ?_⟩
        rw [decideFrom, hf, flat_leads hd]
        rfl
    · rw [if_neg hf]
      have hd : decideFrom k v els (r :: t) = decideFrom k v els t := by rw [decideFrom, Bool.eq_false_iff.2 hf]; rfl
      rw [hd]
      rcases judge_decide k v els he t (i + 1) (fun x hx => h x (List.mem_cons_of_mem _ hx)) with ⟨a, b, c, d⟩ | ⟨a, b, c⟩
      · refine .inl ⟨a, by omega, by rw [List.length_cons]; omega, ?_⟩
        rw [show (judgeFrom k els t (i + 1)).2 - i = ((judgeFrom k els t (i + 1)).2 - (i + 1)) + 1 by omega, List.drop_succ_cons]
        exact d
      · exact .inr ⟨a, b, c⟩
theorem firstF_drop : ∀ (l : List Nat) (i : Nat), firstF l = 0 → firstF (l.drop i) = 0
  | _, 0, h => h
  | [], i + 1, _ => rfl
  | x :: r, i + 1, h => by
    rw [firstF] at h
    split at h
    · exact firstF_drop r i h
    · rename_i hx; exact absurd h hx
theorem polF_drop {p : POL} (h : polF p = 0) (i : Nat) : polF ⟨p.rules.drop i, p.els⟩ = 0 := by
  unfold polF at h ⊢
  split at h
  · cases h
  · rename_i hl
    split at h
    · rename_i ha
      rw [if_neg (by simp; omega)]
      simp only
      rw [if_pos ha, List.map_drop]
      exact firstF_drop _ i h
    · rename_i ha; exact absurd h ha
/-- What the whole says of a right policy. -/
theorem top_laws {p : POL} (h : PolOk p) (k : KL) (v : VS) :
    ((judgeR p k).1.kind = 4 ∧ (judgeR p k).2 < p.rules.length ∧ (decideR p k v).kind ≠ 4 ∧ decideR ⟨p.rules.drop (judgeR p k).2, p.els⟩ k v = decideR p k v) ∨
    ((judgeR p k).1.kind ≠ 4 ∧ (judgeR p k).2 = 0 ∧ decideR p k v = (judgeR p k).1) := by
  unfold judgeR decideR
  by_cases ha : k.arch = 3221225534
  · simp only [if_pos ha]
    have hr : ∀ r ∈ p.rules, actF r.act = 0 := fun r hr => (h.rules r hr).act
    rcases judge_decide k v p.els h.els p.rules 0 hr with ⟨a, _, c, d⟩ | ⟨a, b, c⟩
    · rw [Nat.sub_zero] at d
      exact .inl ⟨a, by omega, decide_kind k v p.els h.els p.rules hr, d⟩
    · exact .inr ⟨a, b, c⟩
  · simp only [if_neg ha]
    exact .inr (by simp)
end Go.Proofs.YtlgghomjlhnijaaGreat

/- Cells said by a function, for the walks of package mem: no array of pages is ever written out. -/
namespace Go.Proofs.YtlgghomjlhnijaaGreat.Bp
end Go.Proofs.YtlgghomjlhnijaaGreat.Bp
namespace Go.Proofs.YtlgghomjlhnijaaGreat.Mm
open Go.Proofs.YtlgghomjlhnijaaGreat.Bp
open Go.RowKit

/-- n cells, said by a function, as the kernel reckons them. -/
def VA0 (n : Nat) (f : Nat → Value) : Array Value := Array.ofFn (n := n) fun i => f i
/-- The same cells, kept shut: no walk looks into them. -/
def VA (n : Nat) (f : Nat → Value) : Array Value := if h : n = 0 then #[] else (VA (n - 1) f).push (f (n - 1))
theorem VA_eq (n : Nat) (f : Nat → Value) : VA n f = VA0 n f := by
  induction n with
  | zero => rw [VA]; simp [VA0]
  | succ n ih =>
    rw [VA]
    simp only [Nat.add_one_ne_zero, dite_false, Nat.add_sub_cancel, ih]
    apply Array.ext_getElem?
    intro i
    rw [Array.getElem?_push]
    have hz : (VA0 n f).size = n := by simp [VA0]
    rw [hz]
    by_cases hi : i = n
    · subst hi; simp [VA0]
    · rw [if_neg hi]
      by_cases hl : i < n
      · simp [VA0, hl, show i < n + 1 by omega]
      · simp [VA0, hl, show ¬ i < n + 1 by omega]
def updV (f : Nat → Value) (i : Nat) (v : Value) : Nat → Value := fun j => if j = i then v else f j
theorem VA_size (n : Nat) (f : Nat → Value) : (VA n f).size = n := by rw [VA_eq]; simp [VA0]
theorem VA_get (n : Nat) (f : Nat → Value) (i : Nat) (h : i < n) : (VA n f)[i]? = some (f i) := by rw [VA_eq]; simp [VA0, h]
theorem VA_none (n : Nat) (f : Nat → Value) (i : Nat) (h : ¬ i < n) : (VA n f)[i]? = none := by rw [VA_eq]; simp [VA0, h]
theorem VA_congr (n : Nat) (f g : Nat → Value) (h : ∀ i, i < n → f i = g i) : VA n f = VA n g := by
  apply Array.ext_getElem?
  intro j
  by_cases hj : j < n
  · rw [VA_get n f j hj, VA_get n g j hj, h j hj]
  · rw [VA_none n f j hj, VA_none n g j hj]
theorem VA_set (n : Nat) (f : Nat → Value) (i : Nat) (v : Value) : (VA n f).setIfInBounds i v = VA n (updV f i v) := by
  apply Array.ext_getElem?
  intro j
  rw [Array.getElem?_setIfInBounds]
  by_cases hj : j < n
  · rw [VA_get n f j hj, VA_get n _ j hj, VA_size]
    by_cases h : i = j
    · subst h; simp [updV, hj]
    · have h' : ¬ j = i := fun e => h e.symm
      simp [h, h', updV]
  · rw [VA_none n f j hj, VA_none n _ j hj, VA_size]
    by_cases h : i = j
    · subst h; simp [hj]
    · simp [h]

/-- Memory, as it stands: a byte at each address below 768, what may be read, what may be written. -/
structure MS where
  byte : Nat → Nat
  rd : Nat → Bool
  wt : Nat → Bool
/-- Its cells: twelve pages of sixty-four bytes and two words each. -/
def cellM (m : MS) (i : Nat) : Value := if i % 66 < 64 then .int .u8 (m.byte (i / 66 * 64 + i % 66)) else if i % 66 = 64 then .bool (m.rd (i / 66)) else .bool (m.wt (i / 66))
theorem cellM_byte (m : MS) (n j : Nat) (hj : j < 64) : cellM m (n * 66 + j) = .int .u8 (m.byte (n * 64 + j)) := by
  unfold cellM
  rw [if_pos (by omega), show (n * 66 + j) / 66 = n by omega, show (n * 66 + j) % 66 = j by omega]
theorem cellM_rd (m : MS) (n : Nat) : cellM m (n * 66 + 64) = .bool (m.rd n) := by
  unfold cellM
  rw [if_neg (by omega), if_pos (by omega), show (n * 66 + 64) / 66 = n by omega]
theorem cellM_wt (m : MS) (n : Nat) : cellM m (n * 66 + 65) = .bool (m.wt n) := by
  unfold cellM
  rw [if_neg (by omega), if_neg (by omega), show (n * 66 + 65) / 66 = n by omega]
def setRd (m : MS) (n : Nat) (b : Bool) : MS := { m with rd := fun k => if k = n then b else m.rd k }
def setWt (m : MS) (n : Nat) (b : Bool) : MS := { m with wt := fun k => if k = n then b else m.wt k }
def setBy (m : MS) (a : Nat) (x : Nat) : MS := { m with byte := fun k => if k = a then x else m.byte k }
theorem upd_rd (m : MS) (n : Nat) (b : Bool) : updV (cellM m) (n * 66 + 64) (.bool b) = cellM (setRd m n b) := by
  funext i
  unfold updV
  by_cases h : i = n * 66 + 64
  · rw [if_pos h, h, cellM_rd]; simp [setRd]
  · rw [if_neg h]
    unfold cellM setRd
    by_cases h1 : i % 66 < 64
    · rw [if_pos h1, if_pos h1]
    · rw [if_neg h1, if_neg h1]
      by_cases h2 : i % 66 = 64
      · rw [if_pos h2, if_pos h2]
        show _ = Value.bool (if i / 66 = n then b else m.rd (i / 66))
        rw [if_neg (by omega)]
      · rw [if_neg h2, if_neg h2]
theorem upd_wt (m : MS) (n : Nat) (b : Bool) : updV (cellM m) (n * 66 + 65) (.bool b) = cellM (setWt m n b) := by
  funext i
  unfold updV
  by_cases h : i = n * 66 + 65
  · rw [if_pos h, h, cellM_wt]; simp [setWt]
  · rw [if_neg h]
    unfold cellM setWt
    by_cases h1 : i % 66 < 64
    · rw [if_pos h1, if_pos h1]
    · rw [if_neg h1, if_neg h1]
      by_cases h2 : i % 66 = 64
      · rw [if_pos h2, if_pos h2]
      · rw [if_neg h2, if_neg h2]
        show _ = Value.bool (if i / 66 = n then b else m.wt (i / 66))
        rw [if_neg (by omega)]
theorem upd_by (m : MS) (n j x : Nat) (hj : j < 64) : updV (cellM m) (n * 66 + j) (.int .u8 x) = cellM (setBy m (n * 64 + j) x) := by
  funext i
  unfold updV
  by_cases h : i = n * 66 + j
  · rw [if_pos h, h, cellM_byte _ n j hj]; simp [setBy]
  · rw [if_neg h]
    unfold cellM setBy
    by_cases h1 : i % 66 < 64
    · rw [if_pos h1, if_pos h1]
      show _ = Value.int .u8 ((if i / 66 * 64 + i % 66 = n * 64 + j then x else m.byte (i / 66 * 64 + i % 66) : Nat) : Int)
      rw [if_neg (by omega)]
    · rw [if_neg h1, if_neg h1]

/-- Memory lies in block g. -/
def IsM (g : Nat) (m : MS) (W : World) : Prop := W.heap[g]? = some (.cells (VA 792 (cellM m)) 89 (0, 0))
theorem IsM.on {g : Nat} {m : MS} {W V : World} (h : IsM g m W) (hb : Below W.heap.size W V) : IsM g m V := (hb.block g (Array.getElem?_eq_some_iff.1 h).1).trans h

/-- A world with a block of memory in it. -/
structure MB where
  W : World
  g : Nat
  m0 : MS
  ok : IsM g m0 W
/-- That world, with this memory in the block, some draws later. -/
def PW (B : MB) (m : MS) (k : Nat) : World := (B.W.setRow B.g (VA 792 (cellM m))).drewN k
theorem PW_heap (B : MB) (m : MS) (k : Nat) : (PW B m k).heap[B.g]? = some (.cells (VA 792 (cellM m)) 89 (0, 0)) := setRow_heap _ _ _ _ _ _ B.ok
theorem PW_isM (B : MB) (m : MS) (k : Nat) : IsM B.g m (PW B m k) := PW_heap B m k
theorem PW_cell (B : MB) (m : MS) (k i : Nat) (hi : i < 792) : (PW B m k).cell? ⟨B.g, i, none⟩ = some (cellM m i) := by
  rw [cell_of_row _ _ i _ _ _ (PW_heap B m k), VA_get 792 _ i hi]
theorem PW_fro (B : MB) (m : MS) (k i : Nat) : (PW B m k).frozen? ⟨B.g, i, none⟩ = false := frozen_of_row _ _ i _ _ (PW_heap B m k)
theorem setRow_again (W : World) (g : Nat) (c0 c1 c2 : Array Value) (t : TypeId) (h : W.heap[g]? = some (.cells c0 t (0, 0))) : (W.setRow g c1).setRow g c2 = W.setRow g c2 := by
  unfold World.setRow
  congr 1
  apply Array.ext_getElem?
  intro j
  simp only [Array.getElem?_modify]
  by_cases hj : g = j
  · subst hj
    simp [h]
  · simp [hj]
theorem PW_row (B : MB) (m m' : MS) (k : Nat) : (PW B m k).setRow B.g (VA 792 (cellM m')) = PW B m' k := by
  unfold PW
  exact congrArg (World.drewN · k) (setRow_again B.W B.g _ _ _ _ B.ok)
theorem PW_set (B : MB) (m : MS) (k i : Nat) (v : Value) (m' : MS) (h : updV (cellM m) i v = cellM m') : (PW B m k).setCell ⟨B.g, i, none⟩ v = PW B m' k := by
  rw [setCell_eq_setRow _ _ i _ _ _ _ (PW_heap B m k), VA_set, h, PW_row]
theorem PW_rd (B : MB) (m : MS) (k n : Nat) (hn : n < 12) : (PW B m k).cell? ⟨B.g, n * 66 + 64, none⟩ = some (.bool (m.rd n)) := by rw [PW_cell B m k _ (by omega), cellM_rd]
theorem PW_wt (B : MB) (m : MS) (k n : Nat) (hn : n < 12) : (PW B m k).cell? ⟨B.g, n * 66 + 65, none⟩ = some (.bool (m.wt n)) := by rw [PW_cell B m k _ (by omega), cellM_wt]
theorem PW_by (B : MB) (m : MS) (k n j : Nat) (hn : n < 12) (hj : j < 64) : (PW B m k).cell? ⟨B.g, n * 66 + j, none⟩ = some (.int .u8 (m.byte (n * 64 + j))) := by rw [PW_cell B m k _ (by omega), cellM_byte _ _ _ hj]
theorem PW_setRd (B : MB) (m : MS) (k n : Nat) (b : Bool) : (PW B m k).setCell ⟨B.g, n * 66 + 64, none⟩ (.bool b) = PW B (setRd m n b) k := PW_set B m k _ _ _ (upd_rd m n b)
theorem PW_setWt (B : MB) (m : MS) (k n : Nat) (b : Bool) : (PW B m k).setCell ⟨B.g, n * 66 + 65, none⟩ (.bool b) = PW B (setWt m n b) k := PW_set B m k _ _ _ (upd_wt m n b)
theorem PW_setBy (B : MB) (m : MS) (k n j x : Nat) (hj : j < 64) : (PW B m k).setCell ⟨B.g, n * 66 + j, none⟩ (.int .u8 x) = PW B (setBy m (n * 64 + j) x) k := PW_set B m k _ _ _ (upd_by m n j x hj)
theorem PW_drewN (B : MB) (m : MS) (k n : Nat) : (PW B m k).drewN n = PW B m (k + n) := by unfold PW; rw [World.drewN_drewN]
theorem PW_drew (B : MB) (m : MS) (k : Nat) : (PW B m k).drew = PW B m (k + 1) := PW_drewN B m k 1
/-- Any world that holds memory is of this form. -/
theorem PW_of {g : Nat} {m : MS} {W : World} (h : IsM g m W) : W = PW ⟨W, g, m, h⟩ m 0 := by
  show W = (W.setRow g (VA 792 (cellM m))).drewN 0
  rw [show (W.setRow g (VA 792 (cellM m))) = W from setRow_self W g _ _ _ h]
  rfl
end Go.Proofs.YtlgghomjlhnijaaGreat.Mm

/- New memory; small functions of package mem. -/
namespace Go.Proofs.YtlgghomjlhnijaaGreat.Bp
end Go.Proofs.YtlgghomjlhnijaaGreat.Bp
namespace Go.Proofs.YtlgghomjlhnijaaGreat.Mm
open Go.Proofs.YtlgghomjlhnijaaGreat.Bp
open Go.RowKit

theorem isThreads_any (n : Int) (w : World) : Calls Tryz.prog 59 #[.int .i64 n] w fun e w' => e = .returned (.bool (decide (0 ≤ n) && decide (n < 8))) ∧ w' = w := by
  go_enter Tryz.func59, Tryz.ntmps59
  go_wp2
  all_goals
    go_ret
    exact ⟨ret_bool (by rw [Bool.eq_iff_iff]; simp; try omega), rfl⟩

theorem start_any (n : Nat) (hn : n ≤ 12) (w : World) : Calls Tryz.prog 84 #[.int .i64 n] w fun e w' => e = .returned (.int .u64 (n * 64 : Nat)) ∧ w' = w := by
  go_enter Tryz.func84, Tryz.ntmps84
  go_wp2
  go_ret
  refine ⟨ret_int ?_, rfl⟩
  omega

def zeroM : MS := ⟨fun _ => 0, fun _ => false, fun _ => false⟩

set_option maxRecDepth 100000 in
theorem zero_cells : Tryz.zeroCells89 = VA 792 (cellM zeroM) := by
  rw [VA_eq]
  kernel_rfl

theorem new_any (w : World) : Calls Tryz.prog 22 #[] w fun e w' => e = .returned (.pointer (some ⟨w.heap.size, 0, none⟩)) ∧ Below w.heap.size w w' ∧ IsM w.heap.size zeroM w' := by
  go_enter Tryz.func22, Tryz.ntmps22
  go_wp2_with fail
  go_ret
  exact ⟨rfl, (Below.refl _ _).alloc (Nat.le_refl _) _, by rw [zero_cells]; exact heap_alloc_new _ _⟩
end Go.Proofs.YtlgghomjlhnijaaGreat.Mm

/- Map, find, Byte. -/
namespace Go.Proofs.YtlgghomjlhnijaaGreat.Bp
end Go.Proofs.YtlgghomjlhnijaaGreat.Bp
namespace Go.Proofs.YtlgghomjlhnijaaGreat.Mm
open Go.Proofs.YtlgghomjlhnijaaGreat.Bp
open Go.RowKit
attribute [local go_sem] PW_drew PW_drewN PW_fro PW_setRd PW_setWt

theorem map_bad (B : MB) (m : MS) (k : Nat) (n : Int) (hn : ¬ (0 ≤ n ∧ n < 8)) (b : Bool) :
    Calls Tryz.prog 38 #[.pointer (some ⟨B.g, 0, none⟩), .int .i64 n, .bool b] (PW B m k) fun e w' => e = .returned (.iface 93 (.int .i64 5)) ∧ w' = PW B m k := by
  have hd : (decide (0 ≤ n) && decide (n < 8)) = false := by rw [Bool.and_eq_false_iff]; simp; omega
  go_enter Tryz.func38, Tryz.ntmps38
  go_wp2_with (go_at_call 59; refine (isThreads_any _ _).mono ?_; rw [hd]; rintro e w' ⟨rfl, rfl⟩)
  go_ret
  exact ⟨rfl, rfl⟩

theorem map_ok (B : MB) (m : MS) (k n : Nat) (hn : n < 8) (b : Bool) :
    Calls Tryz.prog 38 #[.pointer (some ⟨B.g, 0, none⟩), .int .i64 n, .bool b] (PW B m k) fun e w' => e = .returned .nilIface ∧ ∃ k', w' = PW B (setWt (setRd m n true) n b) k' := by
  have hd : (decide (0 ≤ (n : Int)) && decide ((n : Int) < 8)) = true := by simp; omega
  have c1 := fun m k => PW_rd B m k n (by omega)
  have c2 := fun m k => PW_wt B m k n (by omega)
  go_enter Tryz.func38, Tryz.ntmps38
  go_wp2_with (go_at_call 59; refine (isThreads_any _ _).mono ?_; rw [hd]; rintro e w' ⟨rfl, hw⟩; rw [hw]; clear hw w')
  go_region
  go_wp2
  go_ret
  exact ⟨rfl, _, rfl⟩

theorem find_ok (g : Nat) (a : Nat) (ha : a < 768) (w : World) :
    Calls Tryz.prog 61 #[.pointer (some ⟨g, 0, none⟩), .int .u64 a] w fun e w' => e = .returned (.tuple #[.pointer (some ⟨g, a / 64 * 66, none⟩), .int .i64 (a % 64 : Nat)]) ∧ w' = w := by
  go_enter Tryz.func61, Tryz.ntmps61
  go_wp2
  go_ret2
  exact ⟨rfl, rfl⟩
theorem find_no (g : Nat) (a : Nat) (ha : 768 ≤ a) (hb : a < 18446744073709551616) (w : World) :
    Calls Tryz.prog 61 #[.pointer (some ⟨g, 0, none⟩), .int .u64 a] w fun e w' => e = .returned (.tuple #[.pointer none, .int .i64 0]) ∧ w' = w := by
  obtain ⟨q, hq⟩ : ∃ q : Int, q = (a : Int) / 64 := ⟨_, rfl⟩
  have hw : IntKind.u64.wrap ((a : Int) / 64) = q := by rw [IntKind.wrap_u64, hq]; omega
  have h12 : (12 : Int) ≤ q := by omega
  clear hb hq
  go_enter Tryz.func61, Tryz.ntmps61
  go_wp2
  go_ret2
  exact ⟨rfl, rfl⟩

theorem byte_ok (B : MB) (m : MS) (k a : Nat) (ha : a < 768) (hr : m.rd (a / 64) = true) :
    Calls Tryz.prog 48 #[.pointer (some ⟨B.g, 0, none⟩), .int .u64 a] (PW B m k) fun e w' => e = .returned (.tuple #[.int .u8 (m.byte a), .nilIface]) ∧ w' = PW B m k := by
  have c1 := fun k => PW_rd B m k (a / 64) (by omega)
  rw [hr] at c1
  have c2 := fun k => PW_by B m k (a / 64) (a % 64) (by omega) (by omega)
  rw [show a / 64 * 64 + a % 64 = a by omega] at c2
  go_enter Tryz.func48, Tryz.ntmps48
  go_wp2_with (go_at_call 61; refine (find_ok _ a ha _).mono ?_; rintro e w' ⟨rfl, hw⟩; rw [hw]; clear hw w')
  go_ret2
  exact ⟨rfl, rfl⟩

theorem byte_out (B : MB) (m : MS) (k a : Nat) (ha : 768 ≤ a) (hb : a < 18446744073709551616) :
    Calls Tryz.prog 48 #[.pointer (some ⟨B.g, 0, none⟩), .int .u64 a] (PW B m k) fun e w' => e = .returned (.tuple #[.int .u8 0, .iface 93 (.int .i64 5)]) ∧ w' = PW B m k := by
  have HF := fun w => find_no B.g a ha hb w
  clear hb ha
  go_enter Tryz.func48, Tryz.ntmps48
  go_wp2_with (go_at_call 61; refine (HF _).mono ?_; rintro e w' ⟨rfl, hw⟩; rw [hw]; clear hw w')
  go_ret2
  exact ⟨rfl, rfl⟩

theorem byte_no (B : MB) (m : MS) (k a : Nat) (ha : a < 768) (hr : m.rd (a / 64) = false) :
    Calls Tryz.prog 48 #[.pointer (some ⟨B.g, 0, none⟩), .int .u64 a] (PW B m k) fun e w' => e = .returned (.tuple #[.int .u8 0, .iface 93 (.int .i64 5)]) ∧ w' = PW B m k := by
  have c1 := fun k => PW_rd B m k (a / 64) (by omega)
  rw [hr] at c1
  go_enter Tryz.func48, Tryz.ntmps48
  go_wp2_with (go_at_call 61; refine (find_ok _ a ha _).mono ?_; rintro e w' ⟨rfl, hw⟩; rw [hw]; clear hw w')
  go_ret2
  exact ⟨rfl, rfl⟩
end Go.Proofs.YtlgghomjlhnijaaGreat.Mm

/- Bytes laid into a page, a page cleared: the builtins copy and clear on memory. -/
namespace Go.Proofs.YtlgghomjlhnijaaGreat.Bp
end Go.Proofs.YtlgghomjlhnijaaGreat.Bp
namespace Go.Proofs.YtlgghomjlhnijaaGreat.Mm
open Go.Proofs.YtlgghomjlhnijaaGreat.Bp
open Go.RowKit

/-- Bytes stand at an address on. -/
def writeBy (m : MS) (a : Nat) (l : List UInt8) : MS := { m with byte := fun x => if a ≤ x ∧ x < a + l.length then (l.getD (x - a) 0).toNat else m.byte x }

theorem row_write (m : MS) (n j : Nat) (l : List UInt8) (hn : n < 12) (hl : j + l.length ≤ 64) :
    ((VA 792 (cellM m)).toList.take (n * 66 + j) ++ Lib.byteCells l ++ (VA 792 (cellM m)).toList.drop (n * 66 + j + l.length)).toArray = VA 792 (cellM (writeBy m (n * 64 + j) l)) := by
  have hlen : (VA 792 (cellM m)).toList.length = 792 := by rw [Array.length_toList, VA_size]
  have hbl : (Lib.byteCells l).length = l.length := by simp [Lib.byteCells]
  apply Array.ext_getElem?
  intro i
  rw [List.getElem?_toArray]
  by_cases hi : i < 792
  · rw [VA_get 792 _ i hi]
    have hv : (VA 792 (cellM m)).toList[i]? = some (cellM m i) := by rw [Array.getElem?_toList, VA_get 792 _ i hi]
    by_cases h1 : i < n * 66 + j
    · rw [List.append_assoc, List.getElem?_append_left (by rw [List.length_take, hlen]; omega), List.getElem?_take, if_pos h1, hv]
      congr 1
      unfold cellM writeBy
      by_cases h6 : i % 66 < 64
      · rw [if_pos h6, if_pos h6]
        show _ = Value.int .u8 ((if n * 64 + j ≤ i / 66 * 64 + i % 66 ∧ i / 66 * 64 + i % 66 < n * 64 + j + l.length then _ else m.byte (i / 66 * 64 + i % 66) : Nat) : Int)
        rw [if_neg (by omega)]
      · rw [if_neg h6, if_neg h6]
    · by_cases h2 : i < n * 66 + j + l.length
      · have ht : ((VA 792 (cellM m)).toList.take (n * 66 + j)).length = n * 66 + j := by rw [List.length_take, hlen]; omega
        rw [List.append_assoc, List.getElem?_append_right (by rw [ht]; omega), ht, List.getElem?_append_left (by rw [hbl]; omega)]
        have hil : i - (n * 66 + j) < l.length := by omega
        have e1 : (Lib.byteCells l)[i - (n * 66 + j)]? = some (.int .u8 (l[i - (n * 66 + j)].toNat : Int)) := by
          unfold Lib.byteCells
          rw [List.getElem?_map, List.getElem?_eq_getElem hil]
          rfl
        rw [e1]
        congr 1
        unfold cellM writeBy
        rw [if_pos (by omega)]
        show _ = Value.int .u8 ((if n * 64 + j ≤ i / 66 * 64 + i % 66 ∧ i / 66 * 64 + i % 66 < n * 64 + j + l.length then (l.getD (i / 66 * 64 + i % 66 - (n * 64 + j)) 0).toNat else m.byte (i / 66 * 64 + i % 66) : Nat) : Int)
        rw [if_pos (by omega), show i / 66 * 64 + i % 66 - (n * 64 + j) = i - (n * 66 + j) by omega, List.getD_eq_getElem?_getD, List.getElem?_eq_getElem hil]
        rfl
      · have ht : ((VA 792 (cellM m)).toList.take (n * 66 + j) ++ Lib.byteCells l).length = n * 66 + j + l.length := by rw [List.length_append, List.length_take, hlen, hbl]; omega
        rw [List.getElem?_append_right (by rw [ht]; omega), ht, List.getElem?_drop, show n * 66 + j + l.length + (i - (n * 66 + j + l.length)) = i by omega, hv]
        congr 1
        unfold cellM writeBy
        by_cases h6 : i % 66 < 64
        · rw [if_pos h6, if_pos h6]
          show _ = Value.int .u8 ((if n * 64 + j ≤ i / 66 * 64 + i % 66 ∧ i / 66 * 64 + i % 66 < n * 64 + j + l.length then _ else m.byte (i / 66 * 64 + i % 66) : Nat) : Int)
          rw [if_neg (by omega)]
        · rw [if_neg h6, if_neg h6]
  · rw [VA_none 792 _ i hi, List.getElem?_eq_none]
    rw [List.length_append, List.length_append, List.length_take, List.length_drop, hlen, hbl]
    omega

theorem PW_store (B : MB) (m : MS) (k n j : Nat) (l : List UInt8) (hn : n < 12) (hl : j + l.length ≤ 64) :
    (storeCells ⟨B.g, n * 66 + j, none⟩ (Lib.byteCells l)).run Tryz.prog (PW B m k) = .ok () (PW B (writeBy m (n * 64 + j) l) k) := by
  have h := run_storeCells_at Tryz.prog B.g (n * 66 + j) 89 (Lib.byteCells l) 0 (VA 792 (cellM m)) (PW B m k) (PW_heap B m k) (by rw [VA_size]; simp [Lib.byteCells]; omega) (Lib.byteCells_one _)
  rw [Nat.add_zero, show (Lib.byteCells l).length = l.length by simp [Lib.byteCells], row_write m n j l hn hl] at h
  rw [h, PW_row]

/-- 'copy(p.bytes[j:], s)'. -/
theorem run_copy_page (B : MB) (m : MS) (k n j cap ty : Nat) (s : ByteArray) (hn : n < 12) (hj : j ≤ 64) :
    (Builtin.copy_ #[112, 9] ty #[.slice (some ⟨B.g, n * 66 + j, none⟩) (64 - j) cap, .string s]).run Tryz.prog (PW B m k) =
      .ok (goInt (Nat.min s.size (64 - j))) (PW B (writeBy m (n * 64 + j) (s.data.toList.take (Nat.min s.size (64 - j)))) k) := by
  have hs : (Tryz.prog.info? 5).map (·.size) = some 1 := by kernel_rfl
  have hst := PW_store B m k n j (s.data.toList.take (Nat.min s.size (64 - j))) hn (by have h1 := List.length_take_le (Nat.min s.size (64 - j)) s.data.toList; have h2 : Nat.min s.size (64 - j) ≤ 64 - j := Nat.min_le_right _ _; omega)
  have htk : List.take (Nat.min s.size (64 - j)) (List.map (fun b : UInt8 => Value.int IntKind.u8 (b.toNat : Int)) s.data.toList) = Lib.byteCells (s.data.toList.take (Nat.min s.size (64 - j))) := by
    unfold Lib.byteCells
    rw [List.map_take]
  cases hq : Tryz.prog.info? 5 with
  | none => simp [hq] at hs
  | some i =>
    simp [Builtin.copy_, run_underlying Tryz.underlying112, Builtin.lenOf, Builtin.firstCells, sizeOf, typeInfo, hq]
    rw [htk, hst]
    simp [Result.andThen]

/-- Sixty-four noughts. -/
def Z64 : List UInt8 := List.replicate 64 0
theorem Z64_len : Z64.length = 64 := by unfold Z64; rw [List.length_replicate]

/-- 'clear(p.bytes[:])'. -/
theorem run_clear_page (B : MB) (m : MS) (k n cap ty : Nat) (hn : n < 12) :
    (Builtin.clear_ #[112] ty #[.slice (some ⟨B.g, n * 66, none⟩) 64 cap]).run Tryz.prog (PW B m k) = .ok (.tuple #[]) (PW B (writeBy m (n * 64) Z64) k) := by
  have hst := PW_store B m k n 0 Z64 hn (by rw [Z64_len]; omega)
  rw [Nat.add_zero, Nat.add_zero] at hst
  have hz : (Builtin.zeroCells (Value.int IntKind.u8 0).cells 64).toList = Lib.byteCells Z64 := by kernel_rfl
  have hv : ∀ w, (zeroValue 5).run Tryz.prog w = .ok (.int .u8 0) w := Tryz.zeroValue5
  simp [Builtin.clear_, run_underlying Tryz.underlying112, hv, hz, hst, Result.andThen]

theorem wpList_copy_page {ops : Array Oper} {rest : List Oper} {o : Oper} {a : Act} {Q : Exit → Act → World → Prop} (hgd : o.guard = none) (d x : Operand)
    (ho : o.op = .call { callee := .builtin .copy, args := #[d, x], argTypes := #[112, 9] }) (B : MB) (m : MS) (k n j cap : Nat) (s : ByteArray) (hn : n < 12) (hj : j ≤ 64)
    (hd : a.eval d = .slice (some ⟨B.g, n * 66 + j, none⟩) (64 - j) cap) (hs : a.eval x = .string s)
    (h : wpList Tryz.prog ops Q rest (a.put o.dst (goInt (Nat.min s.size (64 - j)))) (PW B (writeBy m (n * 64 + j) (s.data.toList.take (Nat.min s.size (64 - j)))) k)) : wpList Tryz.prog ops Q (o :: rest) a (PW B m k) := by
  refine wpList_plain hgd fun K hK => ?_
  have hrun := run_copy_page B m k n j cap o.type s hn hj
  unfold Oper.wp
  simp [execOp, ho, resolve, invoke, builtin, hd, hs, hrun, Result.andThen]
  exact hK _ _ h

theorem wpList_clear_page {ops : Array Oper} {rest : List Oper} {o : Oper} {a : Act} {Q : Exit → Act → World → Prop} (hgd : o.guard = none) (d : Operand)
    (ho : o.op = .call { callee := .builtin .clear, args := #[d], argTypes := #[112] }) (B : MB) (m : MS) (k n cap : Nat) (hn : n < 12)
    (hd : a.eval d = .slice (some ⟨B.g, n * 66, none⟩) 64 cap)
    (h : wpList Tryz.prog ops Q rest (a.put o.dst (.tuple #[])) (PW B (writeBy m (n * 64) Z64) k)) : wpList Tryz.prog ops Q (o :: rest) a (PW B m k) := by
  refine wpList_plain hgd fun K hK => ?_
  have hrun := run_clear_page B m k n cap o.type hn
  unfold Oper.wp
  simp [execOp, ho, resolve, invoke, builtin, hd, hrun, Result.andThen]
  exact hK _ _ h
end Go.Proofs.YtlgghomjlhnijaaGreat.Mm

/- drop, Unmap. -/
namespace Go.Proofs.YtlgghomjlhnijaaGreat.Bp
end Go.Proofs.YtlgghomjlhnijaaGreat.Bp
namespace Go.Proofs.YtlgghomjlhnijaaGreat.Mm
open Go.Proofs.YtlgghomjlhnijaaGreat.Bp
open Go.RowKit
attribute [local go_sem] PW_drew PW_drewN PW_fro PW_setRd PW_setWt

/-- A page made one that may not be read. -/
def dropM (m : MS) (n : Nat) : MS := writeBy (setWt (setRd m n false) n false) (n * 64) Z64

theorem drop_any (B : MB) (m : MS) (k n : Nat) (hn : n < 12) :
    Calls Tryz.prog 60 #[.pointer (some ⟨B.g, n * 66, none⟩)] (PW B m k) fun e w' => e = .returned (.tuple #[]) ∧ w' = PW B (dropM m n) k := by
  have c1 := fun m k => PW_rd B m k n hn
  have c2 := fun m k => PW_wt B m k n hn
  go_enter Tryz.func60, Tryz.ntmps60
  go_wp2_with (refine wpList_clear_page rfl _ rfl B _ _ n _ hn rfl ?_)
  go_end0
  exact ⟨rfl, rfl⟩

theorem unmap_bad (B : MB) (m : MS) (k : Nat) (n : Int) (hn : ¬ (0 ≤ n ∧ n < 8)) :
    Calls Tryz.prog 39 #[.pointer (some ⟨B.g, 0, none⟩), .int .i64 n] (PW B m k) fun e w' => e = .returned (.iface 93 (.int .i64 5)) ∧ ∃ k', w' = PW B m k' := by
  have hd : (decide (0 ≤ n) && decide (n < 8)) = false := by rw [Bool.and_eq_false_iff]; simp; omega
  go_enter Tryz.func39, Tryz.ntmps39
  go_wp2_with (go_at_call 59; refine (isThreads_any _ _).mono ?_; rw [hd]; rintro e w' ⟨rfl, rfl⟩)
  go_ret
  exact ⟨rfl, _, rfl⟩

theorem unmap_ok (B : MB) (m : MS) (k n : Nat) (hn : n < 8) (hr : m.rd n = true) :
    Calls Tryz.prog 39 #[.pointer (some ⟨B.g, 0, none⟩), .int .i64 n] (PW B m k) fun e w' => e = .returned .nilIface ∧ ∃ k', w' = PW B (dropM m n) k' := by
  have hd : (decide (0 ≤ (n : Int)) && decide ((n : Int) < 8)) = true := by simp; omega
  have c1 := fun k => PW_rd B m k n (by omega)
  rw [hr] at c1
  go_enter Tryz.func39, Tryz.ntmps39
  go_wp2_with (first
    | (go_at_call 59; refine (isThreads_any _ _).mono ?_; rw [hd]; rintro e w' ⟨rfl, hw⟩; rw [hw]; clear hw w')
    | (go_at_call 60; refine (drop_any B m _ n (by omega)).mono ?_; rintro e w' ⟨rfl, rfl⟩))
  go_ret
  exact ⟨rfl, _, rfl⟩

theorem unmap_no (B : MB) (m : MS) (k n : Nat) (hn : n < 8) (hr : m.rd n = false) :
    Calls Tryz.prog 39 #[.pointer (some ⟨B.g, 0, none⟩), .int .i64 n] (PW B m k) fun e w' => e = .returned (.iface 93 (.int .i64 5)) ∧ ∃ k', w' = PW B m k' := by
  have hd : (decide (0 ≤ (n : Int)) && decide ((n : Int) < 8)) = true := by simp; omega
  have c1 := fun k => PW_rd B m k n (by omega)
  rw [hr] at c1
  go_enter Tryz.func39, Tryz.ntmps39
  go_wp2_with (go_at_call 59; refine (isThreads_any _ _).mono ?_; rw [hd]; rintro e w' ⟨rfl, hw⟩; rw [hw]; clear hw w')
  go_ret
  exact ⟨rfl, _, rfl⟩

/-- How many of the pages from 8 on, j of them looked at, are sealed. -/
def cntM (m : MS) : Nat → Nat
  | 0 => 0
  | j + 1 => cntM m j + if m.rd (8 + j) = true then 1 else 0
theorem cntM_le (m : MS) : ∀ j, cntM m j ≤ j
  | 0 => Nat.le_refl _
  | j + 1 => by have := cntM_le m j; rw [cntM]; split <;> omega

theorem sealed_any (B : MB) (m : MS) (k : Nat) : Calls Tryz.prog 12 #[.pointer (some ⟨B.g, 0, none⟩)] (PW B m k) fun e w' => e = .returned (.int .i64 (cntM m 4)) ∧ ∃ k', w' = PW B m k' := by
  go_enter Tryz.func12, Tryz.ntmps12
  go_wp2
  go_loopw [3, 4] (fun K N w' => ∃ n : Nat, 8 ≤ n ∧ n ≤ 12 ∧ K = .int .i64 (cntM m (n - 8)) ∧ N = .int .i64 n ∧ w' = PW B m k) (fun _ N _ => 12 - (intOf N).toNat)
  case atStart => exact ⟨8, by omega, by omega, rfl, rfl, rfl⟩
  case round =>
    obtain ⟨n, h8, h12, rfl, rfl, rfl⟩ := hrel
    have hc := cntM_le m (n - 8)
    by_cases hlt : n < 12
    · have c1 := PW_rd B m k n hlt
      have HC := hide (show cntM m (n + 1 - 8) = cntM m (n - 8) + if m.rd n = true then 1 else 0 by rw [show n + 1 - 8 = (n - 8) + 1 by omega, cntM, show 8 + (n - 8) = n by omega])
      cases hr : m.rd n with
      | false =>
        rw [hr] at c1 HC
        clear hr
        go_wp2
        go_round
        case rel => exact ⟨n + 1, by omega, by omega, by rw [HC.out]; rfl, by go_num, trivial⟩
        case measure => simp [intOf]; omega
      | true =>
        rw [hr] at c1 HC
        clear hr
        go_wp2
        go_round
        case rel => exact ⟨n + 1, by omega, by omega, by rw [HC.out]; rfl, by go_num, trivial⟩
        case measure => simp [intOf]; omega
    · obtain rfl : n = 12 := by omega
      go_wp2
      go_ret
      exact ⟨rfl, k, rfl⟩

/-- Free at an address that no sealed page begins at. -/
theorem free_none (B : MB) (m : MS) (k : Nat) (a : Int) (hno : ∀ n, 8 ≤ n → n < 12 → m.rd n = true → (a ≠ (n * 64 : Nat))) :
    Calls Tryz.prog 76 #[.pointer (some ⟨B.g, 0, none⟩), .int .u64 a] (PW B m k) fun e w' => e = .returned (.iface 93 (.int .i64 8)) ∧ ∃ k', w' = PW B m k' := by
  have HNO := hide hno
  clear hno
  go_enter Tryz.func76, Tryz.ntmps76
  go_wp2
  go_loopw [5] (fun N w' => ∃ n : Nat, 8 ≤ n ∧ n ≤ 12 ∧ N = .int .i64 n ∧ w' = PW B m k) (fun N _ => 12 - (intOf N).toNat)
  case atStart => exact ⟨8, by omega, by omega, rfl, rfl⟩
  case round =>
    obtain ⟨n, h8, h12, rfl, rfl⟩ := hrel
    by_cases hlt : n < 12
    · have c1 := PW_rd B m k n hlt
      cases hr : m.rd n with
      | false =>
        rw [hr] at c1
        clear hr
        go_wp2
        go_round
        case rel => exact ⟨n + 1, by omega, by omega, by go_num, trivial⟩
        case measure => simp [intOf]; omega
      | true =>
        have hne : (((n * 64 : Nat) : Int) == a) = false := by
          have := HNO.out n h8 hlt hr
          rw [beq_eq_false_iff_ne]
          exact fun e => this e.symm
        rw [hr] at c1
        clear hr
        go_wp2_with (go_at_call 84; refine (start_any n (by omega) _).mono ?_; rintro e w' ⟨rfl, hw⟩; rw [hw]; clear hw w')
        go_round
        case rel => exact ⟨n + 1, by omega, by omega, by go_num, trivial⟩
        case measure => simp [intOf]; omega
    · obtain rfl : n = 12 := by omega
      go_wp2
      go_ret
      exact ⟨rfl, k, rfl⟩

/-- Free of a sealed page. -/
theorem free_ok (B : MB) (m : MS) (k q : Nat) (hq8 : 8 ≤ q) (hq : q < 12) (hrq : m.rd q = true) :
    Calls Tryz.prog 76 #[.pointer (some ⟨B.g, 0, none⟩), .int .u64 ((q * 64 : Nat) : Int)] (PW B m k) fun e w' => e = .returned .nilIface ∧ ∃ k', w' = PW B (dropM m q) k' := by
  obtain ⟨a, ha⟩ : ∃ a : Int, a = ((q * 64 : Nat) : Int) := ⟨_, rfl⟩
  rw [← ha]
  have HA := hide ha
  clear ha
  go_enter Tryz.func76, Tryz.ntmps76
  go_wp2
  go_loopw [5] (fun N w' => ∃ n : Nat, 8 ≤ n ∧ n ≤ q ∧ N = .int .i64 n ∧ w' = PW B m k) (fun N _ => 12 - (intOf N).toNat)
  case atStart => exact ⟨8, by omega, by omega, rfl, rfl⟩
  case round =>
    obtain ⟨n, h8, h12, rfl, rfl⟩ := hrel
    have c1 := PW_rd B m k n (by omega)
    by_cases hlt : n < q
    · cases hr : m.rd n with
      | false =>
        rw [hr] at c1
        clear hr
        go_wp2
        go_round
        case rel => exact ⟨n + 1, by omega, by omega, by go_num, trivial⟩
        case measure => simp [intOf]; omega
      | true =>
        have hne : (((n * 64 : Nat) : Int) == a) = false := by
          rw [beq_eq_false_iff_ne, HA.out]
          omega
        rw [hr] at c1
        clear hr
        go_wp2_with (go_at_call 84; refine (start_any n (by omega) _).mono ?_; rintro e w' ⟨rfl, hw⟩; rw [hw]; clear hw w')
        go_round
        case rel => exact ⟨n + 1, by omega, by omega, by go_num, trivial⟩
        case measure => simp [intOf]; omega
    · obtain rfl : n = q := by omega
      have heq : (((n * 64 : Nat) : Int) == a) = true := by rw [beq_iff_eq, HA.out]
      rw [hrq] at c1
      go_wp2_with (first
        | (go_at_call 84; refine (start_any n (by omega) _).mono ?_; rintro e w' ⟨rfl, hw⟩; rw [hw]; clear hw w')
        | (go_at_call 60; refine (drop_any B m _ n (by omega)).mono ?_; rintro e w' ⟨rfl, hw⟩; rw [hw]; clear hw w'))
      go_ret
      exact ⟨rfl, _, rfl⟩
end Go.Proofs.YtlgghomjlhnijaaGreat.Mm

/- Seal. -/
namespace Go.Proofs.YtlgghomjlhnijaaGreat.Bp
end Go.Proofs.YtlgghomjlhnijaaGreat.Bp
namespace Go.Proofs.YtlgghomjlhnijaaGreat.Mm
open Go.Proofs.YtlgghomjlhnijaaGreat.Bp
open Go.RowKit
attribute [local go_sem] PW_drew PW_drewN PW_fro PW_setRd PW_setWt

/-- What is sealed in page q. -/
def sealM (m : MS) (q : Nat) (l : List UInt8) : MS := writeBy (setRd m q true) (q * 64) l

theorem seal_long (B : MB) (m : MS) (k : Nat) (s : ByteArray) (hs : 64 < s.size) :
    Calls Tryz.prog 73 #[.pointer (some ⟨B.g, 0, none⟩), .string s] (PW B m k) fun e w' => e = .returned (.tuple #[.int .u64 0, .iface 93 (.int .i64 1)]) ∧ ∃ k', w' = PW B m k' := by
  go_enter Tryz.func73, Tryz.ntmps73
  go_wp2
  go_ret2
  exact ⟨rfl, k, rfl⟩

theorem seal_ok (B : MB) (m : MS) (k q : Nat) (s : ByteArray) (hs : s.size ≤ 64) (hq8 : 8 ≤ q) (hq : q < 12) (hbef : ∀ n, 8 ≤ n → n < q → m.rd n = true) (hrq : m.rd q = false) :
    Calls Tryz.prog 73 #[.pointer (some ⟨B.g, 0, none⟩), .string s] (PW B m k) fun e w' => e = .returned (.tuple #[.int .u64 ((q * 64 : Nat) : Int), .nilIface]) ∧ ∃ k', w' = PW B (sealM m q s.data.toList) k' := by
  have HB := hide hbef
  have HR := hide hrq
  clear hbef hrq
  go_enter Tryz.func73, Tryz.ntmps73
  go_wp2
  go_loopw [6] (fun N w' => ∃ n : Nat, 8 ≤ n ∧ n ≤ q ∧ N = .int .i64 n ∧ w' = PW B m k) (fun N _ => 12 - (intOf N).toNat)
  case atStart => exact ⟨8, by omega, by omega, rfl, rfl⟩
  case round =>
    obtain ⟨n, h8, h12, rfl, rfl⟩ := hrel
    have c1 := PW_rd B m k n (by omega)
    by_cases hlt : n < q
    · rw [HB.out n h8 hlt] at c1
      go_wp2
      go_round
      case rel => exact ⟨n + 1, by omega, by omega, by go_num, trivial⟩
      case measure => simp [intOf]; omega
    · obtain rfl : n = q := by omega
      rw [HR.out] at c1
      go_wp2_with (first
        | (go_at_call 84; refine (start_any n (by omega) _).mono ?_; rintro e w' ⟨rfl, hw⟩; rw [hw]; clear hw w')
        | (refine wpList_copy_page rfl _ _ rfl B _ _ n 0 _ s (by omega) (by omega) rfl rfl ?_))
      go_ret2
      exact ⟨rfl, k, by
        have e : s.data.toList.take s.size = s.data.toList := List.take_of_length_le (by rw [← Lib.size_eq]; exact Nat.le_refl _)
        rw [e]
        rfl⟩

theorem seal_full (B : MB) (m : MS) (k : Nat) (s : ByteArray) (hs : s.size ≤ 64) (hall : ∀ n, 8 ≤ n → n < 12 → m.rd n = true) :
    Calls Tryz.prog 73 #[.pointer (some ⟨B.g, 0, none⟩), .string s] (PW B m k) fun e w' => e = .returned (.tuple #[.int .u64 0, .iface 93 (.int .i64 9)]) ∧ ∃ k', w' = PW B m k' := by
  have HB := hide hall
  clear hall
  go_enter Tryz.func73, Tryz.ntmps73
  go_wp2
  go_loopw [6] (fun N w' => ∃ n : Nat, 8 ≤ n ∧ n ≤ 12 ∧ N = .int .i64 n ∧ w' = PW B m k) (fun N _ => 12 - (intOf N).toNat)
  case atStart => exact ⟨8, by omega, by omega, rfl, rfl⟩
  case round =>
    obtain ⟨n, h8, h12, rfl, rfl⟩ := hrel
    by_cases hlt : n < 12
    · have c1 := PW_rd B m k n hlt
      rw [HB.out n h8 hlt] at c1
      go_wp2
      go_round
      case rel => exact ⟨n + 1, by omega, by omega, by go_num, trivial⟩
      case measure => simp [intOf]; omega
    · obtain rfl : n = 12 := by omega
      go_wp2
      go_ret2
      exact ⟨rfl, k, rfl⟩
end Go.Proofs.YtlgghomjlhnijaaGreat.Mm

/- Get. -/
namespace Go.Proofs.YtlgghomjlhnijaaGreat.Bp
end Go.Proofs.YtlgghomjlhnijaaGreat.Bp
namespace Go.Proofs.YtlgghomjlhnijaaGreat.Mm
open Go.Proofs.YtlgghomjlhnijaaGreat.Bp
open Go.RowKit

/-- What may be read at an address. -/
def peek (m : MS) (a : Nat) : Option Nat := if a < 768 ∧ m.rd (a / 64) = true then some (m.byte a) else none
def byteV : Option Nat → Value
  | none => .tuple #[.int .u8 0, .iface 93 (.int .i64 5)]
  | some x => .tuple #[.int .u8 x, .nilIface]
theorem byte_any (B : MB) (m : MS) (k a : Nat) (ha : a < 18446744073709551616) :
    Calls Tryz.prog 48 #[.pointer (some ⟨B.g, 0, none⟩), .int .u64 a] (PW B m k) fun e w' => e = .returned (byteV (peek m a)) ∧ w' = PW B m k := by
  unfold peek
  by_cases h : a < 768
  · cases hr : m.rd (a / 64) with
    | false => rw [if_neg (by rintro ⟨_, h2⟩; cases h2)]; exact byte_no B m k a h hr
    | true => rw [if_pos ⟨h, rfl⟩]; exact byte_ok B m k a h hr
  · rw [if_neg (fun e => h e.1)]
    exact byte_out B m k a (by omega) ha

theorem get_bad (B : MB) (m : MS) (k : Nat) (a n : Int) (hn : n < 0 ∨ 512 < n) :
    Calls Tryz.prog 75 #[.pointer (some ⟨B.g, 0, none⟩), .int .u64 a, .int .i64 n] (PW B m k) fun e w' => e = .returned (.tuple #[.string ⟨#[]⟩, .iface 93 (.int .i64 1)]) ∧ w' = PW B m k := by
  by_cases h0 : n < 0
  · go_enter Tryz.func75, Tryz.ntmps75
    go_wp2
    go_ret2
    exact ⟨rfl, rfl⟩
  · go_enter Tryz.func75, Tryz.ntmps75
    go_wp2
    go_ret2
    exact ⟨rfl, rfl⟩

theorem info_u8 : ∃ i, Tryz.prog.info? 5 = some i ∧ i.zero = some (.int .u8 0) ∧ i.size = 1 ∧ i.bytes = 1 := by
  have hz : (Tryz.prog.info? 5).map (·.zero) = some (some (.int .u8 0)) := by kernel_rfl
  have hs : (Tryz.prog.info? 5).map (·.size) = some 1 := by kernel_rfl
  have hb : (Tryz.prog.info? 5).map (·.bytes) = some 1 := by kernel_rfl
  cases hq : Tryz.prog.info? 5 with
  | none => rw [hq] at hs; simp at hs
  | some i =>
    rw [hq] at hz hs hb
    simp at hz hs hb
    exact ⟨i, rfl, hz, hs, hb⟩
theorem made_VA (n : Nat) : madeCells (Value.int .u8 0).cells n = VA n fun _ => .int .u8 0 := by
  apply Array.ext_getElem?
  intro i
  by_cases h : i < n
  · rw [VA_get n _ i h]
    simp [madeCells, Value.cells, h, Nat.mod_one]
  · have e1 : (madeCells (Value.int .u8 0).cells n)[i]? = none := by simp [size_madeCells]; omega
    rw [e1, VA_none n _ i h]
/-- 'make([]byte, n)'. -/
theorem wpList_make_bytes {ops : Array Oper} {rest : List Oper} {o : Oper} {a : Act} {w : World} {Q : Exit → Act → World → Prop} (hgd : o.guard = none) (x y : Operand) (ho : o.op = .makeSlice 112 x y) (n : Nat)
    (hx : a.eval x = .int .i64 n) (hy : a.eval y = .int .i64 n) (hn : n ≤ 10000)
    (h : wpList Tryz.prog ops Q rest (a.put o.dst (.slice (some ⟨w.heap.size, 0, none⟩) n n)) (w.alloc (.cells (VA n fun _ => .int .u8 0) 5))) : wpList Tryz.prog ops Q (o :: rest) a w := by
  obtain ⟨i, hi, hz, hs, hb⟩ := info_u8
  have hr := run_make (P := Tryz.prog) w 112 5 i _ Tryz.underlying112 hi hz .i64 .i64 (n : Int) (n : Int) (by omega) (by omega) (by rw [hb]; omega) (by omega)
  rw [hs, Int.toNat_natCast, Nat.mul_one, made_VA] at hr
  refine wpList_plain hgd fun _ hK => ?_
  unfold Oper.wp execOp
  simp only [ho, hx, hy, Sem.run_bind, hr, Result.andThen_ok]
  exact hK _ _ h

/-- The i-th address from a on. -/
def addrI (a i : Nat) : Nat := (a + i) % 18446744073709551616
/-- n bytes from a on, if each may be read. -/
def getR (m : MS) (a : Nat) : Nat → Option (List Nat)
  | 0 => some []
  | n + 1 => (getR m a n).bind fun l => (peek m (addrI a n)).map fun x => l ++ [x]

theorem byte_isM {g : Nat} {m : MS} {W : World} (h : IsM g m W) (a : Nat) (ha : a < 18446744073709551616) :
    Calls Tryz.prog 48 #[.pointer (some ⟨g, 0, none⟩), .int .u64 a] W fun e w' => e = .returned (byteV (peek m a)) ∧ w' = W := by
  have hb := byte_any ⟨W, g, m, h⟩ m 0 a ha
  rw [← PW_of h] at hb
  exact hb

/-- The world with a row of bytes of the call's own. -/
def GW (W : World) (n : Nat) (f : Nat → Value) : World := W.alloc (.cells (VA n f) 5)
theorem GW_heap (W : World) (n : Nat) (f : Nat → Value) : (GW W n f).heap[W.heap.size]? = some (.cells (VA n f) 5 (0, 0)) := heap_alloc_new W _
theorem GW_isM {g : Nat} {m : MS} {W : World} (h : IsM g m W) (n : Nat) (f : Nat → Value) : IsM g m (GW W n f) := (heap_alloc_old W _ (h := (Array.getElem?_eq_some_iff.1 h).1)).trans h
theorem GW_cell (W : World) (n : Nat) (f : Nat → Value) (i : Nat) (hi : i < n) : (GW W n f).cell? ⟨W.heap.size, i, none⟩ = some (f i) := by
  rw [cell_of_row _ _ i _ _ _ (GW_heap W n f), VA_get n f i hi]
theorem GW_fro (W : World) (n : Nat) (f : Nat → Value) (i : Nat) : (GW W n f).frozen? ⟨W.heap.size, i, none⟩ = false := frozen_of_row _ _ i _ _ (GW_heap W n f)
theorem GW_set (W : World) (n : Nat) (f : Nat → Value) (i : Nat) (v : Value) : (GW W n f).setCell ⟨W.heap.size, i, none⟩ v = GW W n (updV f i v) := by
  rw [setCell_eq_setRow _ _ i _ _ _ _ (GW_heap W n f), VA_set]
  exact World.setRow_alloc_new W _ _ _
theorem GW_below (W : World) (n : Nat) (f : Nat → Value) : Below W.heap.size W (GW W n f) := (Below.refl _ _).alloc (Nat.le_refl _) _

/-- The row, the numbers l written, noughts behind. -/
def rowL (l : List Nat) : Nat → Value := fun j => .int .u8 (l.getD j 0)
theorem rowL_snoc (l : List Nat) (x : Nat) : updV (rowL l) l.length (.int .u8 x) = rowL (l ++ [x]) := by
  funext j
  unfold updV rowL
  rw [List.getD_eq_getElem?_getD, List.getD_eq_getElem?_getD, List.getElem?_append]
  by_cases h : j = l.length
  · subst h; simp
  · rw [if_neg h]
    by_cases h2 : j < l.length
    · rw [if_pos h2]
    · rw [if_neg h2, List.getElem?_eq_none (by omega), List.getElem?_eq_none (by simp; omega)]

def bytesOf (l : List Nat) : List UInt8 := l.map UInt8.ofNat
def getV : Option (List Nat) → Value
  | none => .tuple #[.string ⟨#[]⟩, .iface 93 (.int .i64 5)]
  | some l => .tuple #[.string ⟨(bytesOf l).toArray⟩, .nilIface]

theorem getR_len {m : MS} {a : Nat} : ∀ {n : Nat} {l : List Nat}, getR m a n = some l → l.length = n
  | 0, l, h => by rw [← Option.some.inj h]; rfl
  | n + 1, l, h => by
    rw [getR, Option.bind_eq_some_iff] at h
    obtain ⟨l', h1, h2⟩ := h
    rw [Option.map_eq_some_iff] at h2
    obtain ⟨x, _, rfl⟩ := h2
    rw [List.length_append, getR_len h1]
    rfl
theorem getR_none {m : MS} {a i : Nat} (h : getR m a i = none) : ∀ n, i ≤ n → getR m a n = none
  | 0, hn => by rw [show i = 0 by omega] at h; exact h
  | n + 1, hn => by
    by_cases he : i = n + 1
    · rw [← he]; exact h
    · rw [getR, getR_none h n (by omega)]; rfl

theorem getR_lt {m : MS} (hlt : ∀ x, m.byte x < 256) {a : Nat} : ∀ {n : Nat} {l : List Nat}, getR m a n = some l → ∀ x ∈ l, x < 256
  | 0, l, h => by rw [← Option.some.inj h]; intro x hx; cases hx
  | n + 1, l, h => by
    rw [getR, Option.bind_eq_some_iff] at h
    obtain ⟨l', h1, h2⟩ := h
    rw [Option.map_eq_some_iff] at h2
    obtain ⟨y, hy, rfl⟩ := h2
    intro x hx
    rcases List.mem_append.1 hx with h3 | h3
    · exact getR_lt hlt h1 x h3
    · rw [List.mem_singleton.1 h3]
      unfold peek at hy
      split at hy
      · rw [← Option.some.inj hy]; exact hlt _
      · cases hy
theorem bytesOf_get (l : List Nat) (j : Nat) (h1 : j < (bytesOf l).length) (h2 : j < l.length) : (bytesOf l)[j] = UInt8.ofNat l[j] := by simp [bytesOf]
theorem conv_row (W : World) (l : List Nat) (hl : ∀ x ∈ l, x < 256) : (convert 112 9 (.slice (some ⟨W.heap.size, 0, none⟩) l.length l.length)).run Tryz.prog (GW W l.length (rowL l)) = .ok (.string ⟨(bytesOf l).toArray⟩) (GW W l.length (rowL l)) := by
  have hb : (bytesOf l).length = l.length := by unfold bytesOf; rw [List.length_map]
  have h := run_convert_bytes_back (P := Tryz.prog) (GW W l.length (rowL l)) 112 9 5 ⟨W.heap.size, 0, none⟩ l.length (bytesOf l) Tryz.underlying112 Tryz.underlying5 Tryz.underlying9 fun j hj => by
    have hj' : j < l.length := by rw [hb] at hj; exact hj
    rw [show (⟨W.heap.size, 0, none⟩ : Addr).add j = ⟨W.heap.size, j, none⟩ by simp [Addr.add]; omega, GW_cell W _ _ j hj']
    unfold rowL
    rw [bytesOf_get l j hj hj', List.getD_eq_getElem?_getD, List.getElem?_eq_getElem hj']
    have hx := hl _ (List.getElem_mem hj')
    rw [Option.getD_some, UInt8.toNat_ofNat', Nat.mod_eq_of_lt (show l[j] < 2 ^ 8 from hx)]
  rw [hb] at h
  exact h

theorem get_any {g : Nat} {m : MS} {W : World} (hM : IsM g m W) (a n : Nat) (ha : a < 18446744073709551616) (hn : n ≤ 512) (hlt : ∀ x, m.byte x < 256) :
    Calls Tryz.prog 75 #[.pointer (some ⟨g, 0, none⟩), .int .u64 a, .int .i64 n] W fun e w' => e = .returned (getV (getR m a n)) ∧ Below W.heap.size W w' := by
  have HA := hide ha
  have HLT := hide hlt
  have HM := hide hM
  clear ha hlt hM
  obtain ⟨ai, hai⟩ : ∃ x : Int, x = (a : Int) := ⟨_, rfl⟩
  rw [← hai]
  have HAI := hide hai
  clear hai
  go_enter Tryz.func75, Tryz.ntmps75
  go_wp2_with (refine wpList_make_bytes rfl _ _ rfl n ?_ ?_ (by omega) ?_; (· rfl); (· rfl))
  go_loopw [22] (fun I w' => ∃ (i : Nat) (l : List Nat), i ≤ n ∧ I = .int .i64 i ∧ l.length = i ∧ w' = GW W n (rowL l) ∧ Hid (getR m a i = some l)) (fun I _ => n - (intOf I).toNat)
  case atStart => exact ⟨0, [], by omega, rfl, rfl, rfl, hide rfl⟩
  case round =>
    obtain ⟨i, l, hi, rfl, hll, rfl, HG⟩ := hrel
    by_cases hlt : i < n
    · obtain ⟨x, hx⟩ : ∃ x : Int, x = ((addrI a i : Nat) : Int) := ⟨_, rfl⟩
      have hw : IntKind.u64.wrap (ai + i) = x := by
        rw [IntKind.wrap_u64, HAI.out, hx]
        unfold addrI
        omega
      have HC := byte_isM (GW_isM HM.out n (rowL l)) (addrI a i) (Nat.mod_lt _ (by decide))
      rw [← hx] at HC
      have HG2 := hide (show getR m a (i + 1) = (peek m (addrI a i)).map fun x => l ++ [x] by rw [getR, HG.out]; rfl)
      clear hx
      cases hp : peek m (addrI a i) with
      | none =>
        have HV := hide (show getR m a n = none from getR_none (by rw [HG2.out, hp]; rfl) n (show i + 1 ≤ n by omega))
        rw [hp] at HC
        simp only [byteV] at HC
        go_wp2_with (go_at_call 48; refine HC.mono ?_; rintro e w' ⟨rfl, hww⟩; rw [hww]; clear hww w')
        go_ret2
        exact ⟨by rw [HV.out]; rfl, GW_below _ _ _⟩
      | some y =>
        rw [hp] at HC HG2
        simp only [byteV] at HC
        have c1 := GW_cell W n (rowL l) i hlt
        have c2 := GW_fro W n (rowL l)
        have c3 := GW_set W n (rowL l) i (.int .u8 y)
        go_wp2_with (go_at_call 48; refine HC.mono ?_; rintro e w' ⟨rfl, hww⟩; rw [hww]; clear hww w')
        go_round
        case rel => exact ⟨i + 1, l ++ [y], by omega, by go_num, by rw [List.length_append, hll]; rfl, by rw [← rowL_snoc, hll], HG2⟩
        case measure => simp [intOf]; omega
    · obtain rfl : i = n := by omega
      have hcv := conv_row W l (fun x hx => getR_lt HLT.out HG.out x hx)
      rw [hll] at hcv
      go_wp2
      go_ret2
      exact ⟨by rw [HG.out]; rfl, GW_below _ _ _⟩
end Go.Proofs.YtlgghomjlhnijaaGreat.Mm

/- Put. -/
namespace Go.Proofs.YtlgghomjlhnijaaGreat.Bp
end Go.Proofs.YtlgghomjlhnijaaGreat.Bp
namespace Go.Proofs.YtlgghomjlhnijaaGreat.Mm
open Go.Proofs.YtlgghomjlhnijaaGreat.Bp
open Go.RowKit
attribute [local go_sem] PW_drew PW_drewN PW_fro

def strLen : Value → Nat
  | .string s => s.size
  | _ => 0
/-- May a byte be written there? -/
def goodM (m : MS) (x : Nat) : Prop := x < 768 ∧ m.wt (x / 64) = true
theorem find_any (g a : Nat) (ha : a < 18446744073709551616) (w : World) :
    Calls Tryz.prog 61 #[.pointer (some ⟨g, 0, none⟩), .int .u64 a] w fun e w' => e = .returned (if a < 768 then .tuple #[.pointer (some ⟨g, a / 64 * 66, none⟩), .int .i64 (a % 64 : Nat)] else .tuple #[.pointer none, .int .i64 0]) ∧ w' = w := by
  by_cases h : a < 768
  · rw [if_pos h]; exact find_ok g a h w
  · rw [if_neg h]; exact find_no g a (by omega) ha w

theorem put_bad (B : MB) (m : MS) (k a : Nat) (s : ByteArray) (hs : s.size < 4294967296) (hbad : ∃ i, i < s.size ∧ ¬ goodM m (addrI a i)) :
    Calls Tryz.prog 40 #[.pointer (some ⟨B.g, 0, none⟩), .int .u64 a, .string s] (PW B m k) fun e w' => e = .returned (.iface 93 (.int .i64 5)) ∧ ∃ k', w' = PW B m k' := by
  have HBAD := hide hbad
  clear hbad
  obtain ⟨ai, hai⟩ : ∃ x : Int, x = (a : Int) := ⟨_, rfl⟩
  rw [← hai]
  have HAI := hide hai
  clear hai
  go_enter Tryz.func40, Tryz.ntmps40
  go_wp2
  go_loopw [15] (fun I w' => ∃ i : Nat, i ≤ s.size ∧ I = .int .i64 i ∧ w' = PW B m k ∧ Hid (∀ j, j < i → goodM m (addrI a j))) (fun I _ => s.size - (intOf I).toNat)
  case atStart => exact ⟨0, by omega, rfl, rfl, hide (fun j hj => by omega)⟩
  case round =>
    obtain ⟨i, hi, rfl, rfl, HG⟩ := hrel
    by_cases hlt : i < s.size
    · obtain ⟨y, hy⟩ : ∃ y, y = addrI a i := ⟨_, rfl⟩
      obtain ⟨x, hx⟩ : ∃ x : Int, x = (y : Int) := ⟨_, rfl⟩
      have hw : IntKind.u64.wrap (ai + i) = x := by
        rw [IntKind.wrap_u64, HAI.out, hx, hy]
        unfold addrI
        omega
      have HC := fun w => find_any B.g y (by rw [hy]; exact Nat.mod_lt _ (by decide)) w
      rw [← hx] at HC
      have HX := hide hx
      have HY := hide hy
      clear hx hy
      by_cases hin : y < 768
      · have c1 := PW_wt B m k (y / 64) (by omega)
        simp only [if_pos hin] at HC
        cases hr : m.wt (y / 64) with
        | false =>
          rw [hr] at c1
          clear hr
          go_wp2_with (go_at_call 61; refine (HC _).mono ?_; rintro e w' ⟨rfl, hww⟩; rw [hww]; clear hww w')
          go_ret
          exact ⟨rfl, k, rfl⟩
        | true =>
          have HG2 := hide (show ∀ j, j < i + 1 → goodM m (addrI a j) from fun j hj => by
            by_cases h : j < i
            · exact HG.out j h
            · rw [show j = i by omega, ← HY.out]; exact ⟨hin, hr⟩)
          rw [hr] at c1
          clear hr
          go_wp2_with (go_at_call 61; refine (HC _).mono ?_; rintro e w' ⟨rfl, hww⟩; rw [hww]; clear hww w')
          go_round
          case rel => exact ⟨i + 1, by omega, by go_num, trivial, HG2⟩
          case measure => simp [intOf]; omega
      · simp only [if_neg hin] at HC
        go_wp2_with (go_at_call 61; refine (HC _).mono ?_; rintro e w' ⟨rfl, hww⟩; rw [hww]; clear hww w')
        go_ret
        exact ⟨rfl, k, rfl⟩
    · obtain rfl : i = s.size := by omega
      obtain ⟨j, hj, hb⟩ := HBAD.out
      exact absurd (HG.out j hj) hb

theorem writeBy_nil (m : MS) (a : Nat) : writeBy m a [] = m := by
  unfold writeBy
  have : (fun x => if a ≤ x ∧ x < a + ([] : List UInt8).length then (([] : List UInt8).getD (x - a) 0).toNat else m.byte x) = m.byte := by
    funext x
    rw [if_neg (by simp)]
  rw [this]
theorem writeBy_app (m : MS) (a : Nat) (l1 l2 : List UInt8) : writeBy (writeBy m a l1) (a + l1.length) l2 = writeBy m a (l1 ++ l2) := by
  unfold writeBy
  congr 1
  funext x
  show (if a + l1.length ≤ x ∧ x < a + l1.length + l2.length then (l2.getD (x - (a + l1.length)) 0).toNat else if a ≤ x ∧ x < a + l1.length then (l1.getD (x - a) 0).toNat else m.byte x) = if a ≤ x ∧ x < a + (l1 ++ l2).length then ((l1 ++ l2).getD (x - a) 0).toNat else m.byte x
  rw [List.length_append]
  by_cases h1 : a + l1.length ≤ x ∧ x < a + l1.length + l2.length
  · rw [if_pos h1, if_pos (by omega), List.getD_eq_getElem?_getD, List.getD_eq_getElem?_getD, List.getElem?_append_right (by omega), show x - a - l1.length = x - (a + l1.length) by omega]
  · rw [if_neg h1]
    by_cases h2 : a ≤ x ∧ x < a + l1.length
    · rw [if_pos h2, if_pos (by omega), List.getD_eq_getElem?_getD, List.getD_eq_getElem?_getD, List.getElem?_append_left (by omega)]
    · rw [if_neg h2, if_neg (by omega)]

theorem good_fits {m : MS} {a n : Nat} (ha : a < 18446744073709551616) (h : ∀ i, i < n → goodM m (addrI a i)) (h0 : 0 < n) : a + n ≤ 768 := by
  have h1 := (h 0 h0).1
  unfold addrI at h1
  rw [Nat.add_zero, Nat.mod_eq_of_lt ha] at h1
  rcases Nat.lt_or_ge 768 (a + n) with h2 | h2
  · have h3 := (h (768 - a) (by omega)).1
    unfold addrI at h3
    rw [show a + (768 - a) = 768 by omega] at h3
    exact absurd h3 (by decide)
  · exact h2

/-- 'p.bytes[at:]'. -/
theorem slice_page (g y : Nat) (W : World) : (Instr.sliceAt 84 (.pointer (some ⟨g, y / 64 * 66, none⟩)) (some (.int .i64 ((y : Int) % 64))) none none).run Tryz.prog W = .ok (.slice (some ⟨g, y / 64 * 66 + y % 64, none⟩) (64 - y % 64) (64 - y % 64)) W := by
  have hal : Tryz.prog.arrayLen 84 = 64 := by kernel_rfl
  rw [run_sliceAt_array_l W 84 ⟨g, y / 64 * 66, none⟩ (by kernel_rfl) .i64 ((y : Int) % 64) (by omega) (by rw [hal]; omega)]
  rw [hal, show Tryz.prog.elem 84 = 5 by kernel_rfl, Tryz.sizeOf5 W, Result.andThen_ok, show ((y : Int) % 64).toNat = y % 64 by omega]
  unfold slicedAt
  rw [Nat.mul_one, if_neg (by omega)]
  have e : (⟨g, y / 64 * 66, none⟩ : Addr).add (y % 64) = ⟨g, y / 64 * 66 + y % 64, none⟩ := by
    by_cases h : y % 64 = 0
    · rw [h]; simp [Addr.add]
    · simp [Addr.add, h]
  rw [e]

set_option maxRecDepth 20000 in
theorem put_ok (B : MB) (m : MS) (k a : Nat) (s : ByteArray) (ha : a < 18446744073709551616) (hs : s.size < 4294967296) (hgood : ∀ i, i < s.size → goodM m (addrI a i)) :
    Calls Tryz.prog 40 #[.pointer (some ⟨B.g, 0, none⟩), .int .u64 a, .string s] (PW B m k) fun e w' => e = .returned .nilIface ∧ ∃ k', w' = PW B (writeBy m a s.data.toList) k' := by
  have HGD := hide hgood
  have HFIT := hide (good_fits ha hgood)
  clear hgood ha
  obtain ⟨ai, hai⟩ : ∃ x : Int, x = (a : Int) := ⟨_, rfl⟩
  rw [← hai]
  have HAI := hide hai
  clear hai
  go_enter Tryz.func40, Tryz.ntmps40
  go_wp2
  go_loopw [15] (fun I w' => ∃ i : Nat, i ≤ s.size ∧ I = .int .i64 i ∧ w' = PW B m k ∧ Hid (∀ j, j < i → goodM m (addrI a j))) (fun I _ => s.size - (intOf I).toNat)
  case atStart => exact ⟨0, by omega, rfl, rfl, hide (fun j hj => by omega)⟩
  case round =>
    obtain ⟨i, hi, rfl, rfl, HG⟩ := hrel
    by_cases hlt : i < s.size
    · obtain ⟨y, hy⟩ : ∃ y, y = addrI a i := ⟨_, rfl⟩
      obtain ⟨x, hx⟩ : ∃ x : Int, x = (y : Int) := ⟨_, rfl⟩
      have hw : IntKind.u64.wrap (ai + i) = x := by
        rw [IntKind.wrap_u64, HAI.out, hx, hy]
        unfold addrI
        omega
      have HC := fun w => find_any B.g y (by rw [hy]; exact Nat.mod_lt _ (by decide)) w
      rw [← hx] at HC
      have HX := hide hx
      have HY := hide hy
      clear hx hy
      obtain ⟨hin, hr⟩ := HGD.out i hlt
      rw [← HY.out] at hin hr
      have c1 := PW_wt B m k (y / 64) (by omega)
      simp only [if_pos hin] at HC
      have HG2 := hide (show ∀ j, j < i + 1 → goodM m (addrI a j) from fun j hj => HGD.out j (by omega))
      rw [hr] at c1
      clear hr
      go_wp2_with (go_at_call 61; refine (HC _).mono ?_; rintro e w' ⟨rfl, hww⟩; rw [hww]; clear hww w')
      go_round
      case rel => exact ⟨i + 1, by omega, by go_num, trivial, HG2⟩
      case measure => simp [intOf]; omega
    · obtain rfl : i = s.size := by omega
      go_wp2
      go_loopw [1, 2] (fun A S w' => ∃ (t : Nat) (x : Int) (z : ByteArray), t ≤ s.size ∧ A = .int .u64 x ∧ S = .string z ∧ z.size = s.size - t ∧ w' = PW B (writeBy m a (s.data.toList.take t)) k ∧ Hid (x = ((a + t : Nat) : Int)) ∧ Hid (z.data.toList = s.data.toList.drop t)) (fun _ S _ => strLen S)
      case atStart => exact ⟨0, ai, s, by omega, rfl, rfl, by omega, by rw [List.take_zero, writeBy_nil], hide HAI.out, hide (by rw [List.drop_zero])⟩
      case round =>
        obtain ⟨t, x, z, ht, rfl, rfl, hz, rfl, HX, HZ⟩ := hrel
        by_cases hlt : t < s.size
        · have hfit : a + s.size ≤ 768 := HFIT.out (by omega)
          obtain ⟨y, hy⟩ : ∃ y, y = a + t := ⟨_, rfl⟩
          have hy7 : y < 768 := by omega
          have HC := fun w => find_ok B.g y hy7 w
          rw [show ((y : Nat) : Int) = x by rw [HX.out, hy]] at HC
          have HY := hide hy
          clear hy
          have hsl := slice_page B.g y
          go_wp2_with (first
            | (go_at_call 61; refine (HC _).mono ?_; rintro e w' ⟨rfl, hww⟩; rw [hww]; clear hww w')
            | (refine wpList_copy_page rfl _ _ rfl B _ _ (y / 64) (y % 64) _ z ?_ ?_ ?_ ?_ ?_; (· omega); (· omega); (· rfl); (· rfl)))
          have hcp := run_copy_page B (writeBy m a (s.data.toList.take t)) k (y / 64) (y % 64) (64 - y % 64) 3 z (by omega) (by omega)
          rw [hcp]
          simp only [Result.andThen]
          rw [Oper.upon_value]
          clear hcp hsl HC
          obtain ⟨q, hq⟩ : ∃ q, q = Nat.min z.size (64 - y % 64) := ⟨_, rfl⟩
          have hq1 : q ≤ z.size := by rw [hq]; exact Nat.min_le_left _ _
          have hq2 : q ≤ 64 - y % 64 := by rw [hq]; exact Nat.min_le_right _ _
          have hq3 : 0 < q := by rw [hq]; exact Nat.lt_min.2 ⟨by omega, by omega⟩
          rw [← hq]
          clear hq
          have hx7 : 0 ≤ x ∧ x < 768 := by rw [HX.out, ← HY.out]; omega
          have hll : (s.data.toList.take t).length = t := by rw [List.length_take, ← Lib.size_eq]; omega
          have HW := hide (show writeBy (writeBy m a (s.data.toList.take t)) (y / 64 * 64 + y % 64) (z.data.toList.take q) = writeBy m a (s.data.toList.take (t + q)) by
            have h1 := writeBy_app m a (s.data.toList.take t) ((s.data.toList.drop t).take q)
            rw [hll, ← HZ.out, ← HY.out] at h1
            rw [show y / 64 * 64 + y % 64 = y by omega, h1, HZ.out, ← List.take_add])
          go_wp2
          go_round
          case rel =>
            refine ⟨t + q, x + q, _, by omega, rfl, rfl, ?_, by rw [HW.out], hide (by rw [HX.out]; omega), hide ?_⟩
            · simp; omega
            · rw [Lib.extract_data, HZ.out, List.drop_drop, List.take_of_length_le (by rw [List.length_drop, ← Lib.size_eq]; omega)]
          case measure => simp [strLen]; omega
        · obtain rfl : t = s.size := by omega
          have hz0 : z.size = 0 := by omega
          have HE := hide (show s.data.toList.take s.size = s.data.toList from List.take_of_length_le (by rw [← Lib.size_eq]; exact Nat.le_refl _))
          go_wp2
          go_ret
          exact ⟨rfl, k, by rw [HE.out]⟩
end Go.Proofs.YtlgghomjlhnijaaGreat.Mm
