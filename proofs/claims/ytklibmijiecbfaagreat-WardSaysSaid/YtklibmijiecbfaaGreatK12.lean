/- The document's Decide. -/
import Derived.Test.YtklibmijiecbfaaGreatK10
import Derived.Test.YtklibmijiecbfaaGreatK5
import Derived.Test.YtklibmijiecbfaaGreatK11
import Derived.Test.YtklibmijiecbfaaGreatK8
import Derived.Deep.DeepCutAuto
import Derived.Deep.RegionHeld3
import Derived.Test.YtklibmijiecbfaaGreatK9
namespace Go.Proofs.YtklibmijiecbfaaGreat
open Go.RowKit Go.Sort

theorem and_take_false {f0 : Bool} {α : Type} {f : α → Bool} {l : List α} {i : Nat} (h : (f0 && (l.take i).all f) = false) : (f0 && l.all f) = false := by
  cases f0 with
  | false => rfl
  | true =>
    rw [Bool.true_and] at h ⊢
    exact all_take_false h

set_option maxHeartbeats 4000000 in
set_option maxRecDepth 100000 in
theorem rdecide_any (p : POL) (hok : PolOk p) (oa : Option Addr) (cap : Nat) (k : KL) (hk : KlOk k) (v : VS) (hv : VsOk v) (w : World) (hp : IsPol oa cap p w) :
    Calls Tryz.prog 69 #[polV p oa cap, klV k, vsV v] w fun e w' => e = .returned (actV (decideR p k v)) ∧ Below w.heap.size w w' := by
  obtain ⟨n, hn⟩ : ∃ n, n = p.rules.length := ⟨_, rfl⟩
  obtain ⟨vc, hvc⟩ : ∃ c, c = vsC v := ⟨_, rfl⟩
  have hvs : vc.size = 12 := by rw [hvc]; rfl
  obtain ⟨V, hV, hB, hVs, hx, hy, hu, hz⟩ := four_box w #[.slice oa p.rules.length cap, .int .i64 p.els.kind, .int .i64 p.els.errno] (klC k) vc #[.int .i64 0, .int .i64 0] 26 52 68 24
  have HC := hide (pol_parts hp n hn)
  have HRU := hide hok.rules
  have h12 : n ≤ 12 := by have := hok.few; omega
  have HFT := fun r hr oa cap X hc => rfits_any r hr oa cap k hk X hc
  have HU := hide hu
  clear hp hok hk hu
  unfold klC at hV hy
  unfold vsV
  rw [← hvc]
  have HVC := hide hvc
  clear hvc
  obtain ⟨rs, ⟨ak, ae⟩⟩ := p
  have HL := hide (show ∀ i, i < n → ∃ c, rs[i]? = some c ∧ rs.drop i = c :: rs.drop (i + 1) from fun i h => drop_next (by simp only at hn; omega))
  unfold polV klV klC at *
  simp only at *
  rw [← hn] at hV hx ⊢
  have HN := hide hn
  clear hn
  obtain ⟨kar, kn, b0, b1, b2, b3⟩ := k
  simp only at *
  have x0 := hx 0
  have x1 := hx 1
  have x2 := hx 2
  have y0 := hy 0
  have y1 := hy 1
  have y2 := hy 2
  have y3 := hy 3
  have y4 := hy 4
  have y5 := hy 5
  simp only [List.getElem?_toArray, List.getElem?_cons_zero, List.getElem?_cons_succ] at x0 x1 x2 y0 y1 y2 y3 y4 y5
  clear hx hy
  by_cases ha : kar = 3221225534
  · have HJ := hide (show decideR ⟨rs, ⟨ak, ae⟩⟩ ⟨kar, kn, b0, b1, b2, b3⟩ v = decideFrom ⟨kar, kn, b0, b1, b2, b3⟩ v ⟨ak, ae⟩ rs from if_pos ha)
    have ha' : (kar : Int) = 3221225534 := by omega
    rw [ha'] at hV y0 ⊢
    have HKA := hide ha'
    clear ha ha'
    go_enter Tryz.func69, Tryz.ntmps69
    go_wp2
    rw [← hV]
    clear hV
    go_loopw [7] (fun I w' => ∃ i : Nat, i ≤ n ∧ I = .int .i64 i ∧ Hid (decideFrom ⟨kar, kn, b0, b1, b2, b3⟩ v ⟨ak, ae⟩ rs = decideFrom ⟨kar, kn, b0, b1, b2, b3⟩ v ⟨ak, ae⟩ (rs.drop i)) ∧ Hid (Below V.heap.size V w')) (fun I _ => n - (intOf I).toNat)
    case atStart => exact ⟨0, by omega, rfl, hide rfl, hide (Below.refl _ _)⟩
    case round =>
      obtain ⟨i, hi, rfl, HG, HB⟩ := hrel
      have HW := hide (below_next hB HB.out)
      have hsw : w.heap.size + 3 < V.heap.size := by omega
      have g0 := keep_cell HB.out x0
      by_cases hlt : i < n
      · obtain ⟨c, hcs, hdr⟩ := HL.out i hlt
        obtain ⟨b, off, rfl, hbw, HA⟩ := HC.out (by omega)
        obtain ⟨ca, cc, hR0⟩ := HA.out i c hcs
        have hR := hR0.on hbw HW.out
        clear hR0
        have hro := HRU.out c (List.mem_of_getElem? hcs)
        have HF1 := HFT c hro ca cc
        have HIC := hide hR.conds
        have HSH := hide hro.conds
        have HG2 := hide (show decideFrom ⟨kar, kn, b0, b1, b2, b3⟩ v ⟨ak, ae⟩ rs = if fitsB c ⟨kar, kn, b0, b1, b2, b3⟩ && leadsB c v then c.act else decideFrom ⟨kar, kn, b0, b1, b2, b3⟩ v ⟨ak, ae⟩ (rs.drop (i + 1)) by rw [HG.out, hdr, decideFrom])
        have hm4 := hro.few
        have hcm := hR.cap
        have hcl := hR.le
        obtain ⟨fz, hfz⟩ : ∃ z, z = fitsB c ⟨kar, kn, b0, b1, b2, b3⟩ := ⟨_, rfl⟩
        obtain ⟨dz, hdz⟩ : ∃ z, z = deepB c := ⟨_, rfl⟩
        rw [← hfz, ← hdz] at HF1
        rw [← hfz] at HG2
        obtain ⟨p0, p1, p2, p3, _, _, _, _⟩ := hR
        clear hfz hdz hro hcs hdr HG
        obtain ⟨nr, cs, ⟨rk, re⟩⟩ := c
        unfold ruleV at HF1
        unfold leadsB at HG2
        simp only at p0 p1 p2 p3 HF1 HG2 HIC HSH hm4
        simp only [HKA.out] at HF1
        obtain ⟨m, hm⟩ : ∃ m, m = cs.length := ⟨_, rfl⟩
        have HCN := hide (conds_parts HIC.out m hm)
        have HLN := hide (show ∀ i, i < m → ∃ c, cs[i]? = some c ∧ cs.take (i + 1) = cs.take i ++ [c] from fun i h => take_next (by omega))
        rw [← hm] at p1 HF1 hm4
        have HM := hide hm
        clear hm hcm hcl
        have z0 := keep_cell HB.out y0
        have z1 := keep_cell HB.out y1
        have z2 := keep_cell HB.out y2
        have z3 := keep_cell HB.out y3
        have z4 := keep_cell HB.out y4
        have z5 := keep_cell HB.out y5
        have G0 := cell_regrown g0
        have P0 := cell_regrown p0
        have P1 := cell_regrown p1
        have P2 := cell_regrown p2
        have P3 := cell_regrown p3
        have Z0 := cell_regrown z0
        have Z1 := cell_regrown z1
        have Z2 := cell_regrown z2
        have Z3 := cell_regrown z3
        have Z4 := cell_regrown z4
        have Z5 := cell_regrown z5
        have cF : ∀ d os, Calls Tryz.prog 93 #[.agg #[.int .i64 nr, .slice ca m cc, .int .i64 rk, .int .i64 re], .agg #[.int .u32 3221225534, .int .u32 kn, .int .u64 b0, .int .u64 b1, .int .u64 b2, .int .u64 b3]] (grow (redrawn wr d) os) fun e w'' => e = .returned (.tuple #[.bool fz, .bool dz]) ∧ ∃ p : Regrown, w'' = grow (redrawn wr p.d) p.os := fun d os => Calls.regrown_of (HF1 _ (HIC.out.on (below_regrown wr d os)))
        have i1 : (0 : Int) ≤ i := by omega
        go_wp2_with fail
        clear z0 z1 z2 z3 z4 z5
        refine wp_region_quiet_below (by kernel_rfl) (by kernel_rfl) ?_
        repeat (go_big_quiet_step ((go_at_call 93; exact cF _ _)))
        refine wpQuiet_nil ?_
        intro _ hw'
        obtain ⟨⟨dq, osq⟩, hw''⟩ := hw'
        subst hw''
        have HYW := hide (below_regrown wr dq osq)
        have HBQ := hide (below_next HB.out (below_regrown wr dq osq))
        have q1 := P1 dq osq
        have q2 := P2 dq osq
        have q3 := P3 dq osq
        have q0 := G0 dq osq
        clear G0 P0 P1 P2 P3 Z0 Z1 Z2 Z3 Z4 Z5 cF p0 p1 p2 p3 g0
        obtain ⟨Y, hY⟩ : ∃ Y, Y = grow (redrawn wr dq) osq := ⟨_, rfl⟩
        rw [← hY] at HBQ HYW q1 q2 q3 q0 ⊢
        clear hY HF1
        go_wp2
        go_loopw [8, 10] (fun F I w' => ∃ (j : Nat) (f : Bool), j ≤ m ∧ F = .bool f ∧ I = .int .i64 j ∧ Hid (f = (fz && (cs.take j).all (leadB v))) ∧ Hid (Below Y.heap.size Y w')) (fun _ I _ => m - (intOf I).toNat)
        case atStart => exact ⟨0, fz, by omega, rfl, rfl, hide (by simp), hide (Below.refl _ _)⟩
        case round =>
          obtain ⟨j, f, hj, rfl, rfl, HF, HB2⟩ := hrel
          have HBZ := hide (below_next HBQ.out HB2.out)
          have HWZ := hide (below_next hB HBZ.out)
          have HOZ := hide (below_next HYW.out HB2.out)
          have r0 := keep_cell HB2.out q0
          have r1 := keep_cell HB2.out q1
          have r2 := keep_cell HB2.out q2
          have r3 := keep_cell HB2.out q3
          have j1 : (0 : Int) ≤ j := by omega
          by_cases hlt2 : j < m
          · cases f with
            | false =>
              have HG3 := hide (show decideFrom ⟨kar, kn, b0, b1, b2, b3⟩ v ⟨ak, ae⟩ rs = decideFrom ⟨kar, kn, b0, b1, b2, b3⟩ v ⟨ak, ae⟩ (rs.drop (i + 1)) by rw [HG2.out, if_neg (by rw [and_take_false HF.out.symm]; decide)])
              go_wp2
              go_round
              case rel => exact ⟨i + 1, by omega, by go_num, HG3, HBZ⟩
              case measure => simp [intOf]; omega
            | true =>
              obtain ⟨c, hcs, hcat⟩ := HLN.out j hlt2
              obtain ⟨b', off', hca, hbw', HAA⟩ := HCN.out (by omega)
              have hA := (HAA.out j c hcs).on fun t => (bcell HOZ.out).1 b' t hbw'
              have HQ := hide (all_take_snoc' (f := leadB v) hcat)
              have hok := hA.ok
              have hsh := HSH.out c (List.mem_of_getElem? hcs)
              obtain ⟨a, haa, ha3⟩ := shape_arg hsh
              obtain ⟨y, hyy⟩ : ∃ y, y = v.at a := ⟨_, rfl⟩
              have hyo : VlOk y := by rw [hyy]; exact hv.at a
              have hya := vsC_at v a ha3
              rw [← HVC.out, ← hyy] at hya
              have t0 := keep_cell HBZ.out ((HU.out (a * 3)).trans hya.1)
              have t1 := keep_cell HBZ.out ((HU.out (a * 3 + 1)).trans hya.2.1)
              have t2 := keep_cell HBZ.out ((HU.out (a * 3 + 2)).trans hya.2.2)
              have lw : w.heap.size + 2 < wr.heap.size := block_lt_of_cell t0
              have HMT := fun (hg : c.glob.size ≤ 24) w => Gl.rmatch_any c.glob y.path (by omega) hyo.path w
              have HH := fun w => hasNet_any c.net.ip hok.net.ip c.net.bits c.net.lo c.net.hi hok.net.bits hok.net.lo hok.net.hi y.ip hyo.ip y.port w
              have hlb : leadB v c = if c.op = 8 then Gl.matchR c.glob y.path else if c.op = 9 then netHas c.net y else true := by unfold leadB; rw [haa, Int.toNat_natCast, hyy]
              rw [hlb] at HQ
              have hgl : c.op = 8 → c.glob.size ≤ 24 := fun h8 => by
                cases hsh with
                | num a k v ha h1 h6 hv => simp only at h8; omega
                | mask a v m ha hv hm => simp only at h8; omega
                | like a g ha hg => exact (glob_print hg).2
                | net a ip b lo hi ha hip hf => simp only at h8; omega
              obtain ⟨p0, p1, p2, p3, p4, p5, p6, p7, p8, _⟩ := hA
              clear hsh hya hyy hyo hok hcs hcat hlb
              subst hca
              obtain ⟨yp, yi, yo⟩ := y
              obtain ⟨arg, op, vv, mm, gl, ⟨ip, bb, lo, hh⟩⟩ := c
              unfold netV at HH
              simp only at p0 p1 p2 p3 p4 p5 p6 p7 p8 HH HMT haa hgl HQ t0 t1 t2
              unfold netHas at HQ
              simp only at HQ
              subst haa
              have a1 : (0 : Int) ≤ a := by omega
              have a2 : (a : Int) < 4 := by omega
              have a3 : (a : Int) % 4 = a := by omega
              have a4 : Int.tmod (a : Int) 4 = a := by rw [Int.tmod_eq_emod_of_nonneg a1]; exact a3
              by_cases h8 : op = 8
              · subst h8
                replace HMT := HMT (hgl rfl)
                rw [if_pos rfl] at HQ
                obtain ⟨mr, hmr⟩ : ∃ m, m = Gl.matchR gl yp := ⟨_, rfl⟩
                rw [← hmr] at HQ HMT
                clear hmr hgl HH
                obtain ⟨W2, hW2, hW2b, hW2x, hW2y⟩ := two_box wr #[.int .i64 a, .int .i64 8, .int .u64 vv, .int .u64 mm, .string gl, .int .u32 ip, .int .i64 bb, .int .i64 lo, .int .i64 hh] #[.string yp, .int .u32 yi, .int .i64 yo] 47 66
                have u1 := hW2x 1
                simp only [List.getElem?_toArray, List.getElem?_cons_zero, List.getElem?_cons_succ] at u1
                clear hW2x hW2y
                go_wp2_with fail
                rw [← hW2]
                clear hW2
                refine (HMT _).mono ?_
                rintro e w1 ⟨rfl, hb1⟩
                replace u1 := keep_cell hb1 u1
                have HB3 := hide (below_next HB2.out (below_next hW2b hb1))
                clear hb1 hW2b HMT p0 p1 p2 p3 p4 p5 p6 p7 p8 t0 t1 t2
                go_wp2
                go_round
                case rel => exact ⟨j + 1, mr, by omega, rfl, by go_num, hide (by rw [HQ.out, ← Bool.and_assoc, ← HF.out]; rfl), HB3⟩
                case measure => simp [intOf]; omega
              · rw [if_neg h8] at HQ
                by_cases h9 : op = 9
                · subst h9
                  rw [if_pos rfl] at HQ
                  obtain ⟨mr, hmr⟩ : ∃ m, m = hasOf ip bb lo hh yi yo := ⟨_, rfl⟩
                  rw [← hmr] at HQ HH
                  clear hmr hgl HMT h8
                  go_wp2_with (go_at_call 98; refine (HH _).mono ?_; rintro e w1 ⟨rfl, hb1⟩)
                  go_round
                  case rel => exact ⟨j + 1, mr, by omega, rfl, by go_num, hide (by rw [HQ.out, ← Bool.and_assoc, ← HF.out]; rfl), hide (below_next HB2.out (below_next (below_next (box_below _ _) (box_below _ _)) hb1))⟩
                  case measure => simp [intOf]; omega
                · rw [if_neg h9] at HQ
                  clear HMT HH hgl
                  go_wp2
                  go_round
                  case rel => exact ⟨j + 1, true, by omega, rfl, by go_num, hide (by rw [HQ.out, ← Bool.and_assoc, ← HF.out]; rfl), hide (below_next HB2.out (below_next (box_below _ _) (box_below _ _)))⟩
                  case measure => simp [intOf]; omega
          · obtain rfl : j = m := by omega
            rw [List.take_of_length_le (by rw [HM.out]; exact Nat.le_refl _)] at HF
            rw [← HF.out] at HG2
            cases f with
            | false =>
              rw [if_neg (by decide)] at HG2
              go_wp2
              go_round
              case rel => exact ⟨i + 1, by omega, by go_num, HG2, HBZ⟩
              case measure => simp [intOf]; omega
            | true =>
              rw [if_pos rfl] at HG2
              have hr2 : wr.heap[w.heap.size + 3]? = some (.cells #[.int .i64 0, .int .i64 0] 24 (0, 0)) := (HBZ.out.block _ hsw).trans hz
              go_wp2_with (refine wpList_store_row rfl 24 _ _ rfl (w.heap.size + 3) #[.int .i64 rk, .int .i64 re] rfl rfl 24 _ hr2 size_action rfl (one2 _ _) ?_)
              refine bodyPost_ret (v := .agg #[.int .i64 rk, .int .i64 re]) (results_cell_row rfl _ _ (w.heap.size + 3) 24 #[.int .i64 rk, .int .i64 re] (0, 0) _ rfl (setRow_heap _ _ _ _ _ _ hr2) Tryz.underlying24 rfl size_action) rfl ⟨?_, below_setRow HWZ.out (by omega) _⟩
              rw [HJ.out, HG2.out]
              rfl
      · obtain rfl : i = n := by omega
        have HG2 := hide (show decideFrom ⟨kar, kn, b0, b1, b2, b3⟩ v ⟨ak, ae⟩ rs = ⟨ak, ae⟩ by
          rw [HG.out, List.drop_eq_nil_of_le (by rw [HN.out]; exact Nat.le_refl _), decideFrom])
        have g1 := keep_cell HB.out x1
        have g2 := keep_cell HB.out x2
        have hr2 : wr.heap[w.heap.size + 3]? = some (.cells #[.int .i64 0, .int .i64 0] 24 (0, 0)) := (HB.out.block _ hsw).trans hz
        go_wp2_with (refine wpList_store_row rfl 24 _ _ rfl (w.heap.size + 3) #[.int .i64 ak, .int .i64 ae] rfl rfl 24 _ hr2 size_action rfl (one2 _ _) ?_)
        refine bodyPost_ret (v := .agg #[.int .i64 ak, .int .i64 ae]) (results_cell_row rfl _ _ (w.heap.size + 3) 24 #[.int .i64 ak, .int .i64 ae] (0, 0) _ rfl (setRow_heap _ _ _ _ _ _ hr2) Tryz.underlying24 rfl size_action) rfl ⟨?_, below_setRow HW.out (by omega) _⟩
        rw [HJ.out, HG2.out]
        rfl
  · have HJ := hide (show decideR ⟨rs, ⟨ak, ae⟩⟩ ⟨kar, kn, b0, b1, b2, b3⟩ v = ⟨3, 0⟩ from if_neg ha)
    have ha' : ¬ (kar : Int) = 3221225534 := by omega
    clear ha
    go_enter Tryz.func69, Tryz.ntmps69
    have hzz := hz
    rw [hV] at hzz
    go_wp2_with (refine wpList_store_row rfl 24 _ _ rfl (w.heap.size + 3) #[.int .i64 3, .int .i64 0] rfl rfl 24 _ hzz size_action rfl (one2 _ _) ?_)
    rw [hV] at hB
    refine bodyPost_ret (v := .agg #[.int .i64 3, .int .i64 0]) (results_cell_row rfl _ _ (w.heap.size + 3) 24 #[.int .i64 3, .int .i64 0] (0, 0) _ rfl (setRow_heap _ _ _ _ _ _ hzz) Tryz.underlying24 rfl size_action) rfl ⟨?_, below_setRow hB (by omega) _⟩
    rw [HJ.out]
    rfl
end Go.Proofs.YtklibmijiecbfaaGreat

/- Filter. -/
namespace Go.Proofs.YtklibmijiecbfaaGreat
open Go.RowKit Mm

theorem WX.isPol {g gm : Nat} {P : PV} {s : WS} {lv : Value} {W : World} (h : WX g gm P s lv W) : IsPol P.oa P.cap P.p W := h.pol W (fun _ _ _ _ _ => rfl) h.bd
theorem vrow_cells {W : World} {r : Nat} (h : W.heap[r]? = some (.cells #[.int .i64 0, .int .i64 0, .int .i64 0] 121 (0, 0))) :
    (W.cell? ⟨r, 0, none⟩ = some (.int .i64 0) ∧ W.cell? ⟨r, 1, none⟩ = some (.int .i64 0) ∧ W.cell? ⟨r, 2, none⟩ = some (.int .i64 0)) ∧ W.frozen? ⟨r, 0, none⟩ = false ∧ W.frozen? ⟨r, 1, none⟩ = false ∧ W.frozen? ⟨r, 2, none⟩ = false :=
  ⟨⟨cell_of_row _ _ 0 _ _ _ h, cell_of_row _ _ 1 _ _ _ h, cell_of_row _ _ 2 _ _ _ h⟩, frozen_of_row _ _ 0 _ _ h, frozen_of_row _ _ 1 _ _ h, frozen_of_row _ _ 2 _ _ h⟩
theorem vset3 {W : World} {r : Nat} (h : W.heap[r]? = some (.cells #[.int .i64 0, .int .i64 0, .int .i64 0] 121 (0, 0))) (v0 v1 v2 : Value) :
    ((W.setCell ⟨r, 0, none⟩ v0).setCell ⟨r, 1, none⟩ v1).setCell ⟨r, 2, none⟩ v2 = W.setRow r #[v0, v1, v2] := by
  rw [setCell_eq_setRow _ _ 0 _ _ _ _ h, setCell_eq_setRow _ _ 1 _ _ _ _ (setRow_heap _ _ _ _ _ _ h), setRow_again _ _ _ _ _ _ h, setCell_eq_setRow _ _ 2 _ _ _ _ (setRow_heap _ _ _ _ _ _ h), setRow_again _ _ _ _ _ _ h]
  rfl
/-- A cell of another block, behind three stores. -/
theorem keepv {Y : World} {r b o : Nat} {u v0 v1 v2 : Value} (hn : b ≠ r) (h : Y.cell? ⟨b, o, none⟩ = some u) : (((Y.setCell ⟨r, 0, none⟩ v0).setCell ⟨r, 1, none⟩ v1).setCell ⟨r, 2, none⟩ v2).cell? ⟨b, o, none⟩ = some u := by
  rw [cell_heap (Below.heap_setCell _ ⟨r, 2, none⟩ v2 b hn) o, cell_heap (Below.heap_setCell _ ⟨r, 1, none⟩ v1 b hn) o, cell_heap (Below.heap_setCell _ ⟨r, 0, none⟩ v0 b hn) o]
  exact h
set_option maxHeartbeats 2000000 in
set_option maxRecDepth 20000 in
theorem filter_any {g gm : Nat} {P : PV} {s : WS} {lv : Value} {W : World} (n : Nat) (hn : n < 3) (hp : polF P.p = 0) (hk : KlOk (s.T n).call) (h : WX g gm P s lv W) (hlog : s.log.length ≤ 1000000) :
    Calls Tryz.prog 27 #[.pointer (some ⟨g, 0, none⟩), .int .i64 n] W (Goes g gm P (filterS P.p n s) lv W) := by
  have j1 : (0 : Int) ≤ n := by omega
  have j2 : (n : Int) < 3 := by omega
  obtain ⟨k, hkk⟩ : ∃ k, k = (s.T n).call := ⟨_, rfl⟩
  rw [← hkk] at hk
  have HJ := fun X hX => judge_any P.p P.oa P.cap k hk X hX
  have hjv : judgeV P.p k = .tuple #[verV (judgeR P.p k), .nilIface] := by unfold judgeV; rw [if_pos hp, hp]; rfl
  rw [hjv] at HJ
  have hact := judge_act hp k
  have HFS := hide (show filterS P.p n s = if (judgeR P.p k).1.kind = 4 then s.put n { s.T n with phase := 2 } else doS n (judgeR P.p k).1 5 s by rw [hkk]; rfl)
  obtain ⟨⟨⟨ak, ae⟩, ix⟩, hv⟩ : ∃ v, v = judgeR P.p k := ⟨_, rfl⟩
  rw [← hv] at HJ hact HFS
  unfold verV verC polV klV klC at HJ
  simp only at HJ hact HFS
  have c0 : W.cell? ⟨g, 0, none⟩ = some (.slice P.oa P.p.rules.length P.cap) := h.cell 0 (by omega)
  have c1 : W.cell? ⟨g, 1, none⟩ = some (.int .i64 P.p.els.kind) := h.cell 1 (by omega)
  have c2 : W.cell? ⟨g, 2, none⟩ = some (.int .i64 P.p.els.errno) := h.cell 2 (by omega)
  have x1 := h.th n 1 hn (by omega)
  have x2 := h.th n 2 hn (by omega)
  have x3 := h.th n 3 hn (by omega)
  have x4 := h.th n 4 hn (by omega)
  have x5 := h.th n 5 hn (by omega)
  have x6 := h.th n 6 hn (by omega)
  rw [(cellT_call _).1, ← hkk] at x1
  rw [(cellT_call _).2.1, ← hkk] at x2
  rw [(cellT_call _).2.2.1, ← hkk] at x3
  rw [(cellT_call _).2.2.2.1, ← hkk] at x4
  rw [(cellT_call _).2.2.2.2.1, ← hkk] at x5
  rw [(cellT_call _).2.2.2.2.2, ← hkk] at x6
  have hI := h.isPol
  have HI := hide (hI.on (Below.refl _ W).drew)
  have HI2 := hide (hI.on (box_below W (.cells #[.int .i64 0, .int .i64 0, .int .i64 0] 121)).drew)
  have HH := hide h
  have hgW : g ≠ W.heap.size := Nat.ne_of_lt h.glt
  have zb : (W.alloc (.cells #[.int .i64 0, .int .i64 0, .int .i64 0] 121)).drew.heap[W.heap.size]? = some (.cells #[.int .i64 0, .int .i64 0, .int .i64 0] 121 (0, 0)) := heap_alloc_new W _
  have kb := fun {b o v} (hc : W.cell? ⟨b, o, none⟩ = some v) => keep_cell (box_below W (.cells #[.int .i64 0, .int .i64 0, .int .i64 0] 121)) hc
  have y0 := kb c0
  have y1 := kb c1
  have y2 := kb c2
  have z1 := kb x1
  have z2 := kb x2
  have z3 := kb x3
  have z4 := kb x4
  have z5 := kb x5
  have z6 := kb x6
  obtain ⟨pn, hpn⟩ : ∃ m, m = P.p.rules.length := ⟨_, rfl⟩
  obtain ⟨pk, hpk⟩ : ∃ m, m = P.p.els.kind := ⟨_, rfl⟩
  obtain ⟨pe, hpe⟩ : ∃ m, m = P.p.els.errno := ⟨_, rfl⟩
  rw [← hpn] at c0 y0
  rw [← hpk] at c1 y1
  rw [← hpe] at c2 y2
  rw [← hpn, ← hpk, ← hpe] at HJ
  clear kb h hI hkk hv hjv hpn hpk hpe hk
  replace c0 : W.drew.cell? _ = _ := c0
  replace c1 : W.drew.cell? _ = _ := c1
  replace c2 : W.drew.cell? _ = _ := c2
  replace x1 : W.drew.cell? _ = _ := x1
  replace x2 : W.drew.cell? _ = _ := x2
  replace x3 : W.drew.cell? _ = _ := x3
  replace x4 : W.drew.cell? _ = _ := x4
  replace x5 : W.drew.cell? _ = _ := x5
  replace x6 : W.drew.cell? _ = _ := x6
  replace y0 : (W.alloc (.cells #[.int .i64 0, .int .i64 0, .int .i64 0] 121)).drew.cell? _ = _ := y0
  replace y1 : (W.alloc (.cells #[.int .i64 0, .int .i64 0, .int .i64 0] 121)).drew.cell? _ = _ := y1
  replace y2 : (W.alloc (.cells #[.int .i64 0, .int .i64 0, .int .i64 0] 121)).drew.cell? _ = _ := y2
  replace z1 : (W.alloc (.cells #[.int .i64 0, .int .i64 0, .int .i64 0] 121)).drew.cell? _ = _ := z1
  replace z2 : (W.alloc (.cells #[.int .i64 0, .int .i64 0, .int .i64 0] 121)).drew.cell? _ = _ := z2
  replace z3 : (W.alloc (.cells #[.int .i64 0, .int .i64 0, .int .i64 0] 121)).drew.cell? _ = _ := z3
  replace z4 : (W.alloc (.cells #[.int .i64 0, .int .i64 0, .int .i64 0] 121)).drew.cell? _ = _ := z4
  replace z5 : (W.alloc (.cells #[.int .i64 0, .int .i64 0, .int .i64 0] 121)).drew.cell? _ = _ := z5
  replace z6 : (W.alloc (.cells #[.int .i64 0, .int .i64 0, .int .i64 0] 121)).drew.cell? _ = _ := z6
  go_enter Tryz.func27, Tryz.ntmps27
  go_wp2_with fail
  go_cut [5] (fun S wc => ∃ r5 : Nat, S = .pointer (some ⟨r5, 0, none⟩) ∧ Hid (Below W.heap.size W wc) ∧ Hid (wc.heap[r5]? = some (.cells #[.int .i64 ak, .int .i64 ae, .int .i64 ix] 121 (0, 0))))
  case first =>
    go_region_held3 (fun w' => w'.cell? ⟨g, 0, none⟩ = some (.slice P.oa pn P.cap) ∧ w'.cell? ⟨g, 1, none⟩ = some (.int .i64 pk) ∧ w'.cell? ⟨g, 2, none⟩ = some (.int .i64 pe) ∧ w'.cell? ⟨g, 4 + n * 29 + 1, none⟩ = some (.int .u32 k.arch) ∧ w'.cell? ⟨g, 4 + n * 29 + 2, none⟩ = some (.int .u32 k.nr) ∧ w'.cell? ⟨g, 4 + n * 29 + 3, none⟩ = some (.int .u64 k.a0) ∧ w'.cell? ⟨g, 4 + n * 29 + 4, none⟩ = some (.int .u64 k.a1) ∧ w'.cell? ⟨g, 4 + n * 29 + 5, none⟩ = some (.int .u64 k.a2) ∧ w'.cell? ⟨g, 4 + n * 29 + 6, none⟩ = some (.int .u64 k.a3))
      (first | (with_reducible exact ⟨c0, c1, c2, x1, x2, x3, x4, x5, x6⟩) | (with_reducible exact ⟨y0, y1, y2, z1, z2, z3, z4, z5, z6⟩) | (with_reducible exact ⟨r0, r1, r2, r3, r4, r5, r6, r7, r8⟩) | (with_reducible exact ⟨keep_cell (box_below W.drew _) c0, keep_cell (box_below W.drew _) c1, keep_cell (box_below W.drew _) c2, keep_cell (box_below W.drew _) x1, keep_cell (box_below W.drew _) x2, keep_cell (box_below W.drew _) x3, keep_cell (box_below W.drew _) x4, keep_cell (box_below W.drew _) x5, keep_cell (box_below W.drew _) x6⟩) | (with_reducible exact ⟨keep_cell (box_below Y _) r0, keep_cell (box_below Y _) r1, keep_cell (box_below Y _) r2, keep_cell (box_below Y _) r3, keep_cell (box_below Y _) r4, keep_cell (box_below Y _) r5, keep_cell (box_below Y _) r6, keep_cell (box_below Y _) r7, keep_cell (box_below Y _) r8⟩) | (with_reducible exact ⟨keepv hgW r0, keepv hgW r1, keepv hgW r2, keepv hgW r3, keepv hgW r4, keepv hgW r5, keepv hgW r6, keepv hgW r7, keepv hgW r8⟩) | go_keep)
      ((first
        | (go_at_call 50; with_reducible refine (HJ W.drew HI.out).mono ?_; rintro e Y ⟨rfl, hY⟩; have HB := hide (below_next (Below.refl _ W).drew hY); have r0 := keep_cell hY c0; have r1 := keep_cell hY c1; have r2 := keep_cell hY c2; have r3 := keep_cell hY x1; have r4 := keep_cell hY x2; have r5 := keep_cell hY x3; have r6 := keep_cell hY x4; have r7 := keep_cell hY x5; have r8 := keep_cell hY x6; clear hY)
        | (go_at_call 50; refine (HJ (W.alloc (.cells #[.int .i64 0, .int .i64 0, .int .i64 0] 121)).drew HI2.out).mono ?_; rintro e Y ⟨rfl, hY⟩; have HB := hide (below_next (box_below W (.cells #[.int .i64 0, .int .i64 0, .int .i64 0] 121)).drew hY); have r0 := keep_cell hY y0; have r1 := keep_cell hY y1; have r2 := keep_cell hY y2; have r3 := keep_cell hY z1; have r4 := keep_cell hY z2; have r5 := keep_cell hY z3; have r6 := keep_cell hY z4; have r7 := keep_cell hY z5; have r8 := keep_cell hY z6; have uh := (hY.block W.heap.size (by show _ < (W.alloc _).heap.size; rw [World.size_alloc]; exact Nat.lt_succ_self _)).trans zb; obtain ⟨⟨p0, p1, p2⟩, g0, g1, g2⟩ := vrow_cells uh; clear hY)))
    all_goals
      go_wp2_with fail
      go_meet
      case rel => first
        | with_reducible exact ⟨Y.heap.size, rfl, hide (below_next HB.out (box_below _ _)), hide (heap_alloc_new _ _)⟩
        | exact ⟨W.heap.size, rfl, hide (by rw [vset3 uh]; exact below_setRow HB.out (Nat.le_refl _) _), hide (by rw [vset3 uh]; exact setRow_heap _ _ _ _ _ _ uh)⟩
  case rest =>
    obtain ⟨r5, rfl, HB, HR⟩ := hcut
    clear c0 c1 c2 x1 x2 x3 x4 x5 x6 y0 y1 y2 z1 z2 z3 z4 z5 z6 zb HI HI2 HJ
    have d0 : wc.cell? ⟨r5, 0, none⟩ = some (.int .i64 ak) := cell_of_row _ _ 0 _ _ _ HR.out
    have d1 : wc.cell? ⟨r5, 1, none⟩ = some (.int .i64 ae) := cell_of_row _ _ 1 _ _ _ HR.out
    have HX := hide (HH.out.on HB.out)
    by_cases h4 : ak = 4
    · rw [if_pos h4] at HFS
      subst h4
      have cp := HX.out.phase n hn
      have fp := HX.out.fro (4 + n * 29)
      have HS := hide (HX.out.setPhase n 2 hn)
      go_wp2
      go_end0
      rw [HFS.out]
      exact ⟨rfl, lv, HS.out, (Fr.of lv HB.out).trans (Fr.set lv _ _ _)⟩
    · rw [if_neg h4] at HFS
      have ha := hact.resolve_left h4
      have HD := do_any n hn ⟨ak, ae⟩ ha 5 HX.out hlog
      unfold actV at HD
      simp only at HD
      have b4 : (ak == 4) = false := by simpa using h4
      clear hact ha
      go_wp2_with fail
      refine HD.mono ?_
      rintro e w' hG
      obtain ⟨rfl, h1⟩ := hG
      go_wp2
      go_end0
      rw [HFS.out]
      exact Goes.from HB.out ⟨rfl, h1⟩
end Go.Proofs.YtklibmijiecbfaaGreat

/- Judge. -/
namespace Go.Proofs.YtklibmijiecbfaaGreat
open Go.RowKit Mm

theorem arow_cells {W : World} {r : Nat} (h : W.heap[r]? = some (.cells #[.int .i64 0, .int .i64 0] 24 (0, 0))) :
    (W.cell? ⟨r, 0, none⟩ = some (.int .i64 0) ∧ W.cell? ⟨r, 1, none⟩ = some (.int .i64 0)) ∧ W.frozen? ⟨r, 0, none⟩ = false ∧ W.frozen? ⟨r, 1, none⟩ = false :=
  ⟨⟨cell_of_row _ _ 0 _ _ _ h, cell_of_row _ _ 1 _ _ _ h⟩, frozen_of_row _ _ 0 _ _ h, frozen_of_row _ _ 1 _ _ h⟩
theorem aset2 {W : World} {r : Nat} (h : W.heap[r]? = some (.cells #[.int .i64 0, .int .i64 0] 24 (0, 0))) (v0 v1 : Value) : (W.setCell ⟨r, 0, none⟩ v0).setCell ⟨r, 1, none⟩ v1 = W.setRow r #[v0, v1] := by
  rw [setCell_eq_setRow _ _ 0 _ _ _ _ h, setCell_eq_setRow _ _ 1 _ _ _ _ (setRow_heap _ _ _ _ _ _ h), setRow_again _ _ _ _ _ _ h]
  rfl
theorem keepa {Y : World} {r b o : Nat} {u v0 v1 : Value} (hn : b ≠ r) (h : Y.cell? ⟨b, o, none⟩ = some u) : ((Y.setCell ⟨r, 0, none⟩ v0).setCell ⟨r, 1, none⟩ v1).cell? ⟨b, o, none⟩ = some u := by
  rw [cell_heap (Below.heap_setCell _ ⟨r, 1, none⟩ v1 b hn) o, cell_heap (Below.heap_setCell _ ⟨r, 0, none⟩ v0 b hn) o]
  exact h
set_option maxHeartbeats 4000000 in
set_option maxRecDepth 20000 in
theorem wjudge_any {g gm : Nat} {P : PV} {s : WS} {lv : Value} {W : World} (n : Nat) (hn : n < 3) (hp : polF P.p = 0) (hk : KlOk (s.T n).call) (hvo : VsOk (vsOf (s.T n).vals)) (h : WX g gm P s lv W) (hlog : s.log.length ≤ 1000000) :
    Calls Tryz.prog 29 #[.pointer (some ⟨g, 0, none⟩), .int .i64 n] W (Goes g gm P (judgeS P.p n s) lv W) := by
  have j1 : (0 : Int) ≤ n := by omega
  have j2 : (n : Int) < 3 := by omega
  obtain ⟨k, hkk⟩ : ∃ k, k = (s.T n).call := ⟨_, rfl⟩
  obtain ⟨v, hvv⟩ : ∃ v, v = vsOf (s.T n).vals := ⟨_, rfl⟩
  rw [← hkk] at hk
  rw [← hvv] at hvo
  have HJ := fun X hX => decide_any P.p P.oa P.cap k hk v hvo X hX
  have hjv : decideV P.p k v = .tuple #[actV (decideR P.p k v), .nilIface] := by unfold decideV; rw [if_pos hp, hp]; rfl
  rw [hjv] at HJ
  have hact := decide_act hp k v
  have HFS := hide (show judgeS P.p n s = doS n (decideR P.p k v) 4 s by rw [hkk, hvv]; rfl)
  obtain ⟨⟨ak, ae⟩, hv⟩ : ∃ a, a = decideR P.p k v := ⟨_, rfl⟩
  rw [← hv] at HJ hact HFS
  unfold actV polV klV klC vsV vsC at HJ
  simp only at HJ hact HFS
  have c0 : W.cell? ⟨g, 0, none⟩ = some (.slice P.oa P.p.rules.length P.cap) := h.cell 0 (by omega)
  have c1 : W.cell? ⟨g, 1, none⟩ = some (.int .i64 P.p.els.kind) := h.cell 1 (by omega)
  have c2 : W.cell? ⟨g, 2, none⟩ = some (.int .i64 P.p.els.errno) := h.cell 2 (by omega)
  have x1 := h.th n 1 hn (by omega)
  have x2 := h.th n 2 hn (by omega)
  have x3 := h.th n 3 hn (by omega)
  have x4 := h.th n 4 hn (by omega)
  have x5 := h.th n 5 hn (by omega)
  have x6 := h.th n 6 hn (by omega)
  rw [(cellT_call _).1, ← hkk] at x1
  rw [(cellT_call _).2.1, ← hkk] at x2
  rw [(cellT_call _).2.2.1, ← hkk] at x3
  rw [(cellT_call _).2.2.2.1, ← hkk] at x4
  rw [(cellT_call _).2.2.2.2.1, ← hkk] at x5
  rw [(cellT_call _).2.2.2.2.2, ← hkk] at x6
  have v0 : W.cell? ⟨g, 4 + n * 29 + 17, none⟩ = some (.string v.v0.path) := by rw [h.th n 17 hn (by omega), hvv]; exact congrArg some (cellT_val _ 0).1
  have v1 : W.cell? ⟨g, 4 + n * 29 + 18, none⟩ = some (.int .u32 v.v0.ip) := by rw [h.th n 18 hn (by omega), hvv]; exact congrArg some (cellT_val _ 0).2.1
  have v2 : W.cell? ⟨g, 4 + n * 29 + 19, none⟩ = some (.int .i64 v.v0.port) := by rw [h.th n 19 hn (by omega), hvv]; exact congrArg some (cellT_val _ 0).2.2
  have v3 : W.cell? ⟨g, 4 + n * 29 + 20, none⟩ = some (.string v.v1.path) := by rw [h.th n 20 hn (by omega), hvv]; exact congrArg some (cellT_val _ 1).1
  have v4 : W.cell? ⟨g, 4 + n * 29 + 21, none⟩ = some (.int .u32 v.v1.ip) := by rw [h.th n 21 hn (by omega), hvv]; exact congrArg some (cellT_val _ 1).2.1
  have v5 : W.cell? ⟨g, 4 + n * 29 + 22, none⟩ = some (.int .i64 v.v1.port) := by rw [h.th n 22 hn (by omega), hvv]; exact congrArg some (cellT_val _ 1).2.2
  have v6 : W.cell? ⟨g, 4 + n * 29 + 23, none⟩ = some (.string v.v2.path) := by rw [h.th n 23 hn (by omega), hvv]; exact congrArg some (cellT_val _ 2).1
  have v7 : W.cell? ⟨g, 4 + n * 29 + 24, none⟩ = some (.int .u32 v.v2.ip) := by rw [h.th n 24 hn (by omega), hvv]; exact congrArg some (cellT_val _ 2).2.1
  have v8 : W.cell? ⟨g, 4 + n * 29 + 25, none⟩ = some (.int .i64 v.v2.port) := by rw [h.th n 25 hn (by omega), hvv]; exact congrArg some (cellT_val _ 2).2.2
  have v9 : W.cell? ⟨g, 4 + n * 29 + 26, none⟩ = some (.string v.v3.path) := by rw [h.th n 26 hn (by omega), hvv]; exact congrArg some (cellT_val _ 3).1
  have v10 : W.cell? ⟨g, 4 + n * 29 + 27, none⟩ = some (.int .u32 v.v3.ip) := by rw [h.th n 27 hn (by omega), hvv]; exact congrArg some (cellT_val _ 3).2.1
  have v11 : W.cell? ⟨g, 4 + n * 29 + 28, none⟩ = some (.int .i64 v.v3.port) := by rw [h.th n 28 hn (by omega), hvv]; exact congrArg some (cellT_val _ 3).2.2
  have hI := h.isPol
  have HI := hide (hI.on (Below.refl _ W).drew)
  have HI2 := hide (hI.on (box_below W (.cells #[.int .i64 0, .int .i64 0] 24)).drew)
  have HH := hide h
  have hgW : g ≠ W.heap.size := Nat.ne_of_lt h.glt
  have zb : (W.alloc (.cells #[.int .i64 0, .int .i64 0] 24)).drew.heap[W.heap.size]? = some (.cells #[.int .i64 0, .int .i64 0] 24 (0, 0)) := heap_alloc_new W _
  have kb := fun {b o v} (hc : W.cell? ⟨b, o, none⟩ = some v) => keep_cell (box_below W (.cells #[.int .i64 0, .int .i64 0] 24)) hc
  have yc0 := kb c0
  have yc1 := kb c1
  have yc2 := kb c2
  have yx1 := kb x1
  have yx2 := kb x2
  have yx3 := kb x3
  have yx4 := kb x4
  have yx5 := kb x5
  have yx6 := kb x6
  have yv0 := kb v0
  have yv1 := kb v1
  have yv2 := kb v2
  have yv3 := kb v3
  have yv4 := kb v4
  have yv5 := kb v5
  have yv6 := kb v6
  have yv7 := kb v7
  have yv8 := kb v8
  have yv9 := kb v9
  have yv10 := kb v10
  have yv11 := kb v11
  obtain ⟨pn, hpn⟩ : ∃ m, m = P.p.rules.length := ⟨_, rfl⟩
  obtain ⟨pk, hpk⟩ : ∃ m, m = P.p.els.kind := ⟨_, rfl⟩
  obtain ⟨pe, hpe⟩ : ∃ m, m = P.p.els.errno := ⟨_, rfl⟩
  rw [← hpn] at c0 yc0
  rw [← hpk] at c1 yc1
  rw [← hpe] at c2 yc2
  rw [← hpn, ← hpk, ← hpe] at HJ
  clear kb h hI hkk hvv hv hjv hpn hpk hpe hk hvo
  replace c0 : W.drew.cell? _ = _ := c0
  replace c1 : W.drew.cell? _ = _ := c1
  replace c2 : W.drew.cell? _ = _ := c2
  replace x1 : W.drew.cell? _ = _ := x1
  replace x2 : W.drew.cell? _ = _ := x2
  replace x3 : W.drew.cell? _ = _ := x3
  replace x4 : W.drew.cell? _ = _ := x4
  replace x5 : W.drew.cell? _ = _ := x5
  replace x6 : W.drew.cell? _ = _ := x6
  replace v0 : W.drew.cell? _ = _ := v0
  replace v1 : W.drew.cell? _ = _ := v1
  replace v2 : W.drew.cell? _ = _ := v2
  replace v3 : W.drew.cell? _ = _ := v3
  replace v4 : W.drew.cell? _ = _ := v4
  replace v5 : W.drew.cell? _ = _ := v5
  replace v6 : W.drew.cell? _ = _ := v6
  replace v7 : W.drew.cell? _ = _ := v7
  replace v8 : W.drew.cell? _ = _ := v8
  replace v9 : W.drew.cell? _ = _ := v9
  replace v10 : W.drew.cell? _ = _ := v10
  replace v11 : W.drew.cell? _ = _ := v11
  replace yc0 : (W.alloc (.cells #[.int .i64 0, .int .i64 0] 24)).drew.cell? _ = _ := yc0
  replace yc1 : (W.alloc (.cells #[.int .i64 0, .int .i64 0] 24)).drew.cell? _ = _ := yc1
  replace yc2 : (W.alloc (.cells #[.int .i64 0, .int .i64 0] 24)).drew.cell? _ = _ := yc2
  replace yx1 : (W.alloc (.cells #[.int .i64 0, .int .i64 0] 24)).drew.cell? _ = _ := yx1
  replace yx2 : (W.alloc (.cells #[.int .i64 0, .int .i64 0] 24)).drew.cell? _ = _ := yx2
  replace yx3 : (W.alloc (.cells #[.int .i64 0, .int .i64 0] 24)).drew.cell? _ = _ := yx3
  replace yx4 : (W.alloc (.cells #[.int .i64 0, .int .i64 0] 24)).drew.cell? _ = _ := yx4
  replace yx5 : (W.alloc (.cells #[.int .i64 0, .int .i64 0] 24)).drew.cell? _ = _ := yx5
  replace yx6 : (W.alloc (.cells #[.int .i64 0, .int .i64 0] 24)).drew.cell? _ = _ := yx6
  replace yv0 : (W.alloc (.cells #[.int .i64 0, .int .i64 0] 24)).drew.cell? _ = _ := yv0
  replace yv1 : (W.alloc (.cells #[.int .i64 0, .int .i64 0] 24)).drew.cell? _ = _ := yv1
  replace yv2 : (W.alloc (.cells #[.int .i64 0, .int .i64 0] 24)).drew.cell? _ = _ := yv2
  replace yv3 : (W.alloc (.cells #[.int .i64 0, .int .i64 0] 24)).drew.cell? _ = _ := yv3
  replace yv4 : (W.alloc (.cells #[.int .i64 0, .int .i64 0] 24)).drew.cell? _ = _ := yv4
  replace yv5 : (W.alloc (.cells #[.int .i64 0, .int .i64 0] 24)).drew.cell? _ = _ := yv5
  replace yv6 : (W.alloc (.cells #[.int .i64 0, .int .i64 0] 24)).drew.cell? _ = _ := yv6
  replace yv7 : (W.alloc (.cells #[.int .i64 0, .int .i64 0] 24)).drew.cell? _ = _ := yv7
  replace yv8 : (W.alloc (.cells #[.int .i64 0, .int .i64 0] 24)).drew.cell? _ = _ := yv8
  replace yv9 : (W.alloc (.cells #[.int .i64 0, .int .i64 0] 24)).drew.cell? _ = _ := yv9
  replace yv10 : (W.alloc (.cells #[.int .i64 0, .int .i64 0] 24)).drew.cell? _ = _ := yv10
  replace yv11 : (W.alloc (.cells #[.int .i64 0, .int .i64 0] 24)).drew.cell? _ = _ := yv11
  go_enter Tryz.func29, Tryz.ntmps29
  go_wp2_with fail
  go_cut [5] (fun S wc => ∃ r5 : Nat, S = .pointer (some ⟨r5, 0, none⟩) ∧ Hid (Below W.heap.size W wc) ∧ Hid (wc.heap[r5]? = some (.cells #[.int .i64 ak, .int .i64 ae] 24 (0, 0))))
  case first =>
    go_region_held3 (fun w' => w'.cell? ⟨g, 0, none⟩ = some (.slice P.oa pn P.cap) ∧ w'.cell? ⟨g, 1, none⟩ = some (.int .i64 pk) ∧ w'.cell? ⟨g, 2, none⟩ = some (.int .i64 pe) ∧ w'.cell? ⟨g, 4 + n * 29 + 1, none⟩ = some (.int .u32 k.arch) ∧ w'.cell? ⟨g, 4 + n * 29 + 2, none⟩ = some (.int .u32 k.nr) ∧ w'.cell? ⟨g, 4 + n * 29 + 3, none⟩ = some (.int .u64 k.a0) ∧ w'.cell? ⟨g, 4 + n * 29 + 4, none⟩ = some (.int .u64 k.a1) ∧ w'.cell? ⟨g, 4 + n * 29 + 5, none⟩ = some (.int .u64 k.a2) ∧ w'.cell? ⟨g, 4 + n * 29 + 6, none⟩ = some (.int .u64 k.a3) ∧ w'.cell? ⟨g, 4 + n * 29 + 17, none⟩ = some (.string v.v0.path) ∧ w'.cell? ⟨g, 4 + n * 29 + 18, none⟩ = some (.int .u32 v.v0.ip) ∧ w'.cell? ⟨g, 4 + n * 29 + 19, none⟩ = some (.int .i64 v.v0.port) ∧ w'.cell? ⟨g, 4 + n * 29 + 20, none⟩ = some (.string v.v1.path) ∧ w'.cell? ⟨g, 4 + n * 29 + 21, none⟩ = some (.int .u32 v.v1.ip) ∧ w'.cell? ⟨g, 4 + n * 29 + 22, none⟩ = some (.int .i64 v.v1.port) ∧ w'.cell? ⟨g, 4 + n * 29 + 23, none⟩ = some (.string v.v2.path) ∧ w'.cell? ⟨g, 4 + n * 29 + 24, none⟩ = some (.int .u32 v.v2.ip) ∧ w'.cell? ⟨g, 4 + n * 29 + 25, none⟩ = some (.int .i64 v.v2.port) ∧ w'.cell? ⟨g, 4 + n * 29 + 26, none⟩ = some (.string v.v3.path) ∧ w'.cell? ⟨g, 4 + n * 29 + 27, none⟩ = some (.int .u32 v.v3.ip) ∧ w'.cell? ⟨g, 4 + n * 29 + 28, none⟩ = some (.int .i64 v.v3.port))
      (first | (with_reducible exact ⟨c0, c1, c2, x1, x2, x3, x4, x5, x6, v0, v1, v2, v3, v4, v5, v6, v7, v8, v9, v10, v11⟩) | (with_reducible exact ⟨yc0, yc1, yc2, yx1, yx2, yx3, yx4, yx5, yx6, yv0, yv1, yv2, yv3, yv4, yv5, yv6, yv7, yv8, yv9, yv10, yv11⟩) | (with_reducible exact ⟨r0, r1, r2, r3, r4, r5, r6, r7, r8, r9, r10, r11, r12, r13, r14, r15, r16, r17, r18, r19, r20⟩) | (with_reducible exact ⟨keep_cell (box_below W.drew _) c0, keep_cell (box_below W.drew _) c1, keep_cell (box_below W.drew _) c2, keep_cell (box_below W.drew _) x1, keep_cell (box_below W.drew _) x2, keep_cell (box_below W.drew _) x3, keep_cell (box_below W.drew _) x4, keep_cell (box_below W.drew _) x5, keep_cell (box_below W.drew _) x6, keep_cell (box_below W.drew _) v0, keep_cell (box_below W.drew _) v1, keep_cell (box_below W.drew _) v2, keep_cell (box_below W.drew _) v3, keep_cell (box_below W.drew _) v4, keep_cell (box_below W.drew _) v5, keep_cell (box_below W.drew _) v6, keep_cell (box_below W.drew _) v7, keep_cell (box_below W.drew _) v8, keep_cell (box_below W.drew _) v9, keep_cell (box_below W.drew _) v10, keep_cell (box_below W.drew _) v11⟩) | (with_reducible exact ⟨keep_cell (box_below Y _) r0, keep_cell (box_below Y _) r1, keep_cell (box_below Y _) r2, keep_cell (box_below Y _) r3, keep_cell (box_below Y _) r4, keep_cell (box_below Y _) r5, keep_cell (box_below Y _) r6, keep_cell (box_below Y _) r7, keep_cell (box_below Y _) r8, keep_cell (box_below Y _) r9, keep_cell (box_below Y _) r10, keep_cell (box_below Y _) r11, keep_cell (box_below Y _) r12, keep_cell (box_below Y _) r13, keep_cell (box_below Y _) r14, keep_cell (box_below Y _) r15, keep_cell (box_below Y _) r16, keep_cell (box_below Y _) r17, keep_cell (box_below Y _) r18, keep_cell (box_below Y _) r19, keep_cell (box_below Y _) r20⟩) | (with_reducible exact ⟨keepa hgW r0, keepa hgW r1, keepa hgW r2, keepa hgW r3, keepa hgW r4, keepa hgW r5, keepa hgW r6, keepa hgW r7, keepa hgW r8, keepa hgW r9, keepa hgW r10, keepa hgW r11, keepa hgW r12, keepa hgW r13, keepa hgW r14, keepa hgW r15, keepa hgW r16, keepa hgW r17, keepa hgW r18, keepa hgW r19, keepa hgW r20⟩) | go_keep)
      ((first
        | (go_at_call 57; with_reducible refine (HJ W.drew HI.out).mono ?_; rintro e Y ⟨rfl, hY⟩; have HB := hide (below_next (Below.refl _ W).drew hY); have r0 := keep_cell hY c0; have r1 := keep_cell hY c1; have r2 := keep_cell hY c2; have r3 := keep_cell hY x1; have r4 := keep_cell hY x2; have r5 := keep_cell hY x3; have r6 := keep_cell hY x4; have r7 := keep_cell hY x5; have r8 := keep_cell hY x6; have r9 := keep_cell hY v0; have r10 := keep_cell hY v1; have r11 := keep_cell hY v2; have r12 := keep_cell hY v3; have r13 := keep_cell hY v4; have r14 := keep_cell hY v5; have r15 := keep_cell hY v6; have r16 := keep_cell hY v7; have r17 := keep_cell hY v8; have r18 := keep_cell hY v9; have r19 := keep_cell hY v10; have r20 := keep_cell hY v11; clear hY)
        | (go_at_call 57; refine (HJ (W.alloc (.cells #[.int .i64 0, .int .i64 0] 24)).drew HI2.out).mono ?_; rintro e Y ⟨rfl, hY⟩; have HB := hide (below_next (box_below W (.cells #[.int .i64 0, .int .i64 0] 24)).drew hY); have r0 := keep_cell hY yc0; have r1 := keep_cell hY yc1; have r2 := keep_cell hY yc2; have r3 := keep_cell hY yx1; have r4 := keep_cell hY yx2; have r5 := keep_cell hY yx3; have r6 := keep_cell hY yx4; have r7 := keep_cell hY yx5; have r8 := keep_cell hY yx6; have r9 := keep_cell hY yv0; have r10 := keep_cell hY yv1; have r11 := keep_cell hY yv2; have r12 := keep_cell hY yv3; have r13 := keep_cell hY yv4; have r14 := keep_cell hY yv5; have r15 := keep_cell hY yv6; have r16 := keep_cell hY yv7; have r17 := keep_cell hY yv8; have r18 := keep_cell hY yv9; have r19 := keep_cell hY yv10; have r20 := keep_cell hY yv11; have uh := (hY.block W.heap.size (by show _ < (W.alloc _).heap.size; rw [World.size_alloc]; exact Nat.lt_succ_self _)).trans zb; obtain ⟨⟨p0, p1⟩, g0, g1⟩ := arow_cells uh; clear hY)))
    all_goals
      go_wp2_with fail
      go_meet
      case rel => first
        | with_reducible exact ⟨Y.heap.size, rfl, hide (below_next HB.out (box_below _ _)), hide (heap_alloc_new _ _)⟩
        | exact ⟨W.heap.size, rfl, hide (by rw [aset2 uh]; exact below_setRow HB.out (Nat.le_refl _) _), hide (by rw [aset2 uh]; exact setRow_heap _ _ _ _ _ _ uh)⟩
  case rest =>
    obtain ⟨r5, rfl, HB, HR⟩ := hcut
    clear c0 c1 c2 x1 x2 x3 x4 x5 x6 v0 v1 v2 v3 v4 v5 v6 v7 v8 v9 v10 v11 yc0 yc1 yc2 yx1 yx2 yx3 yx4 yx5 yx6 yv0 yv1 yv2 yv3 yv4 yv5 yv6 yv7 yv8 yv9 yv10 yv11 zb HI HI2 HJ
    have d0 : wc.cell? ⟨r5, 0, none⟩ = some (.int .i64 ak) := cell_of_row _ _ 0 _ _ _ HR.out
    have d1 : wc.cell? ⟨r5, 1, none⟩ = some (.int .i64 ae) := cell_of_row _ _ 1 _ _ _ HR.out
    have HX := hide (HH.out.on HB.out)
    have HD := do_any n hn ⟨ak, ae⟩ hact 4 HX.out hlog
    unfold actV at HD
    simp only at HD
    clear hact
    go_wp2_with fail
    refine HD.mono ?_
    rintro e w' hG
    obtain ⟨rfl, h1⟩ := hG
    go_wp2
    go_end0
    rw [HFS.out]
    exact Goes.from HB.out ⟨rfl, h1⟩
end Go.Proofs.YtklibmijiecbfaaGreat

/- The document's Step: phases 1 and 3, and the others' frame. -/
namespace Go.Proofs.YtklibmijiecbfaaGreat
open Go.RowKit Mm

/-- What Step comes to. -/
def DStepd (g : Nat) (P : PV) (d' : DWS) (sv : Nat → Value) (lv : Value) (W : World) (b : Bool) (f : Int) (e : Ending) (w' : World) : Prop := e = .returned (.tuple #[.bool b, .int .i64 f]) ∧ ∃ sv' lv', DX g P d' sv' lv' w' ∧ DFr g sv lv sv' lv' W w'
theorem dstep_bad {W : World} (g : Nat) (n : Int) (hf : ¬ (0 ≤ n ∧ n < 3)) :
    Calls Tryz.prog 38 #[.pointer (some ⟨g, 0, none⟩), .int .i64 n] W fun e w' => e = .returned (.tuple #[.bool false, .int .i64 1]) ∧ w' = W := by
  by_cases h0 : n < 0
  · go_enter Tryz.func38, Tryz.ntmps38
    go_wp2
    go_ret2
    exact ⟨rfl, rfl⟩
  · have h2 : 2 < n := by omega
    go_enter Tryz.func38, Tryz.ntmps38
    go_wp2
    go_ret2
    exact ⟨rfl, rfl⟩
theorem dstep_idle {g : Nat} {P : PV} {d : DWS} {sv : Nat → Value} {lv : Value} {W : World} (n : Nat) (hn : n < 3) (hq : (d.T n).phase = 0) (h : DX g P d sv lv W) :
    Calls Tryz.prog 38 #[.pointer (some ⟨g, 0, none⟩), .int .i64 n] W fun e w' => e = .returned (.tuple #[.bool false, .int .i64 0]) ∧ w' = W := by
  have j0 : ¬ (n : Int) < 0 := by omega
  have j1 : (0 : Int) ≤ n := by omega
  have j2 : ¬ (2 : Int) < n := by omega
  have j3 : (n : Int) < 3 := by omega
  have cp := h.phase n hn
  rw [hq] at cp
  clear h hq
  go_enter Tryz.func38, Tryz.ntmps38
  go_wp2
  go_ret2
  exact ⟨rfl, rfl⟩
theorem dstep_dead {g : Nat} {P : PV} {d : DWS} {sv : Nat → Value} {lv : Value} {W : World} (n : Nat) (hn : n < 3) (hq : (d.T n).phase = 6) (h : DX g P d sv lv W) :
    Calls Tryz.prog 38 #[.pointer (some ⟨g, 0, none⟩), .int .i64 n] W fun e w' => e = .returned (.tuple #[.bool false, .int .i64 8]) ∧ w' = W := by
  have j0 : ¬ (n : Int) < 0 := by omega
  have j1 : (0 : Int) ≤ n := by omega
  have j2 : ¬ (2 : Int) < n := by omega
  have j3 : (n : Int) < 3 := by omega
  have cp := h.phase n hn
  rw [hq] at cp
  clear h hq
  go_enter Tryz.func38, Tryz.ntmps38
  go_wp2
  go_ret2
  exact ⟨rfl, rfl⟩
theorem dstep_2 {g : Nat} {P : PV} {d : DWS} {sv : Nat → Value} {lv : Value} {W : World} {R : World → Prop} (n : Nat) (hn : n < 3) (hq : (d.T n).phase = 2) (h : DX g P d sv lv W)
    (HC : Calls Tryz.prog 68 #[.pointer (some ⟨g, 0, none⟩), .int .i64 n] W fun e w' => e = .returned (.tuple #[]) ∧ R w') :
    Calls Tryz.prog 38 #[.pointer (some ⟨g, 0, none⟩), .int .i64 n] W fun e w' => e = .returned (.tuple #[.bool true, .int .i64 0]) ∧ R w' := by
  have j0 : ¬ (n : Int) < 0 := by omega
  have j1 : (0 : Int) ≤ n := by omega
  have j2 : ¬ (2 : Int) < n := by omega
  have j3 : (n : Int) < 3 := by omega
  have cp := h.phase n hn
  rw [hq] at cp
  clear h hq
  go_enter Tryz.func38, Tryz.ntmps38
  go_wp2_with fail
  refine HC.mono ?_
  rintro e w' ⟨rfl, hR⟩
  go_wp2
  go_ret2
  exact ⟨rfl, hR⟩
theorem dstep_4 {g : Nat} {P : PV} {d : DWS} {sv : Nat → Value} {lv : Value} {W : World} {R : World → Prop} (n : Nat) (hn : n < 3) (hq : (d.T n).phase = 4) (h : DX g P d sv lv W)
    (HC : Calls Tryz.prog 70 #[.pointer (some ⟨g, 0, none⟩), .int .i64 n] W fun e w' => e = .returned (.tuple #[]) ∧ R w') :
    Calls Tryz.prog 38 #[.pointer (some ⟨g, 0, none⟩), .int .i64 n] W fun e w' => e = .returned (.tuple #[.bool true, .int .i64 0]) ∧ R w' := by
  have j0 : ¬ (n : Int) < 0 := by omega
  have j1 : (0 : Int) ≤ n := by omega
  have j2 : ¬ (2 : Int) < n := by omega
  have j3 : (n : Int) < 3 := by omega
  have cp := h.phase n hn
  rw [hq] at cp
  clear h hq
  go_enter Tryz.func38, Tryz.ntmps38
  go_wp2_with fail
  refine HC.mono ?_
  rintro e w' ⟨rfl, hR⟩
  go_wp2
  go_ret2
  exact ⟨rfl, hR⟩
theorem dstep_5 {g : Nat} {P : PV} {d : DWS} {sv : Nat → Value} {lv : Value} {W : World} {R : World → Prop} (n : Nat) (hn : n < 3) (hq : (d.T n).phase = 5) (h : DX g P d sv lv W)
    (HC : Calls Tryz.prog 71 #[.pointer (some ⟨g, 0, none⟩), .int .i64 n] W fun e w' => e = .returned (.tuple #[]) ∧ R w') :
    Calls Tryz.prog 38 #[.pointer (some ⟨g, 0, none⟩), .int .i64 n] W fun e w' => e = .returned (.tuple #[.bool true, .int .i64 0]) ∧ R w' := by
  have j0 : ¬ (n : Int) < 0 := by omega
  have j1 : (0 : Int) ≤ n := by omega
  have j2 : ¬ (2 : Int) < n := by omega
  have j3 : (n : Int) < 3 := by omega
  have cp := h.phase n hn
  rw [hq] at cp
  clear h hq
  go_enter Tryz.func38, Tryz.ntmps38
  go_wp2_with fail
  refine HC.mono ?_
  rintro e w' ⟨rfl, hR⟩
  go_wp2
  go_ret2
  exact ⟨rfl, hR⟩
/-- The call that a thread's registers tell. -/
def nowK (t : DT) : KL := ⟨t.asked.arch, t.asked.nr, t.now 0, t.now 1, t.now 2, t.now 3⟩
theorem nowK_eq {t : DT} (h : ∀ i, i < 4 → t.now i = regN t.asked i) : nowK t = t.asked := by
  unfold nowK
  rw [h 0 (by omega), h 1 (by omega), h 2 (by omega), h 3 (by omega)]
  rfl
theorem DX.nows {g : Nat} {P : PV} {d : DWS} {sv : Nat → Value} {lv : Value} {W : World} (h : DX g P d sv lv W) (n : Nat) (hn : n < 3) : W.cell? ⟨g, 783 + n * 31 + 7, none⟩ = some (.int .u32 (nowK (d.T n)).arch) ∧ W.cell? ⟨g, 783 + n * 31 + 8, none⟩ = some (.int .u32 (nowK (d.T n)).nr) ∧ W.cell? ⟨g, 783 + n * 31 + 9, none⟩ = some (.int .u64 (nowK (d.T n)).a0) ∧ W.cell? ⟨g, 783 + n * 31 + 10, none⟩ = some (.int .u64 (nowK (d.T n)).a1) ∧ W.cell? ⟨g, 783 + n * 31 + 11, none⟩ = some (.int .u64 (nowK (d.T n)).a2) ∧ W.cell? ⟨g, 783 + n * 31 + 12, none⟩ = some (.int .u64 (nowK (d.T n)).a3) :=
  ⟨h.th n 7 hn (by omega), h.th n 8 hn (by omega), h.th n 9 hn (by omega), h.th n 10 hn (by omega), h.th n 11 hn (by omega), h.th n 12 hn (by omega)⟩
theorem DX.nowr {g : Nat} {P : PV} {d : DWS} {sv : Nat → Value} {lv : Value} {W : World} (h : DX g P d sv lv W) (n : Nat) (hn : n < 3) : W.rangeAt g (783 + n * 31 + 7) (klC (nowK (d.T n))).toList := fun j v hv => by
  have hj : j < 6 := (List.getElem?_eq_some_iff.1 hv).1
  rw [show 783 + n * 31 + 7 + j = 783 + n * 31 + (7 + j) by omega, h.th n (7 + j) hn (by omega), ← hv]
  rcases show j = 0 ∨ j = 1 ∨ j = 2 ∨ j = 3 ∨ j = 4 ∨ j = 5 by omega with rfl | rfl | rfl | rfl | rfl | rfl <;> rfl
set_option maxHeartbeats 4000000 in
set_option maxRecDepth 20000 in
theorem dstep_1 {g : Nat} {P : PV} {d : DWS} {sv : Nat → Value} {lv : Value} {W : World} (n : Nat) (hn : n < 3) (hp : polF P.p = 0) (hok : PolOk P.p) (hk : KlOk (d.T n).asked) (hq : (d.T n).phase = 1) (hnow : ∀ i, i < 4 → (d.T n).now i = regN (d.T n).asked i) (h : DX g P d sv lv W) (hlog : d.log.length ≤ 1000000) (hs64 : SealOk (d.T n)) :
    Calls Tryz.prog 38 #[.pointer (some ⟨g, 0, none⟩), .int .i64 n] W (DStepd g P (dfilter P.p n d) sv lv W true 0) := by
  have j0 : ¬ (n : Int) < 0 := by omega
  have j1 : (0 : Int) ≤ n := by omega
  have j2 : ¬ (2 : Int) < n := by omega
  have j3 : (n : Int) < 3 := by omega
  have cp := h.phase n hn
  rw [hq] at cp
  obtain ⟨k, hkk⟩ : ∃ k, k = (d.T n).asked := ⟨_, rfl⟩
  have hnk : nowK (d.T n) = k := by rw [hkk]; exact nowK_eq hnow
  rw [← hkk] at hk
  have HJ := fun X hX => rjudge_any P.p hok P.oa P.cap k hk X hX
  have hact := judge_act hp k
  have htr : (judgeR P.p k).1.kind = 4 → k.nr ≤ 8 := fun e => (trace_pts hp e).1
  have HFS := hide (show dfilter P.p n d = if (judgeR P.p k).1.kind = 4 then d.put n { d.T n with phase := 2, arg := nextPt k.nr 0 } else ddone n (judgeR P.p k).1 5 d by rw [hkk]; rfl)
  obtain ⟨⟨⟨ak, ae⟩, ix⟩, hv⟩ : ∃ v, v = judgeR P.p k := ⟨_, rfl⟩
  rw [← hv] at HJ hact HFS htr
  unfold verV verC polV klV klC at HJ
  simp only at HJ hact HFS htr
  have c0 : W.cell? ⟨g, 0, none⟩ = some (.slice P.oa P.p.rules.length P.cap) := h.cell 0 (by omega) (.inl (by omega))
  have c1 : W.cell? ⟨g, 1, none⟩ = some (.int .i64 P.p.els.kind) := h.cell 1 (by omega) (.inl (by omega))
  have c2 : W.cell? ⟨g, 2, none⟩ = some (.int .i64 P.p.els.errno) := h.cell 2 (by omega) (.inl (by omega))
  obtain ⟨x1, x2, x3, x4, x5, x6⟩ := h.nows n hn
  rw [hnk] at x1 x2 x3 x4 x5 x6
  have hI := h.pol'
  have HI := hide (hI.on (Below.refl _ W).drew)
  have HI2 := hide (hI.on (box_below W (.cells #[.int .i64 0, .int .i64 0, .int .i64 0] 121)).drew)
  have HH := hide h
  have HNK := hide hnk
  have hgW : g ≠ W.heap.size := Nat.ne_of_lt h.glt
  have zb : (W.alloc (.cells #[.int .i64 0, .int .i64 0, .int .i64 0] 121)).drew.heap[W.heap.size]? = some (.cells #[.int .i64 0, .int .i64 0, .int .i64 0] 121 (0, 0)) := heap_alloc_new W _
  have kb := fun {b o v} (hc : W.cell? ⟨b, o, none⟩ = some v) => keep_cell (box_below W (.cells #[.int .i64 0, .int .i64 0, .int .i64 0] 121)) hc
  have yc0 := kb c0
  have yc1 := kb c1
  have yc2 := kb c2
  have yx1 := kb x1
  have yx2 := kb x2
  have yx3 := kb x3
  have yx4 := kb x4
  have yx5 := kb x5
  have yx6 := kb x6
  obtain ⟨pn, hpn⟩ : ∃ m, m = P.p.rules.length := ⟨_, rfl⟩
  obtain ⟨pk, hpk⟩ : ∃ m, m = P.p.els.kind := ⟨_, rfl⟩
  obtain ⟨pe, hpe⟩ : ∃ m, m = P.p.els.errno := ⟨_, rfl⟩
  rw [← hpn] at c0 yc0
  rw [← hpk] at c1 yc1
  rw [← hpe] at c2 yc2
  rw [← hpn, ← hpk, ← hpe] at HJ
  clear kb h hI hkk hv hpn hpk hpe hk hnk hnow hq
  replace c0 : W.drew.cell? _ = _ := c0
  replace c1 : W.drew.cell? _ = _ := c1
  replace c2 : W.drew.cell? _ = _ := c2
  replace x1 : W.drew.cell? _ = _ := x1
  replace x2 : W.drew.cell? _ = _ := x2
  replace x3 : W.drew.cell? _ = _ := x3
  replace x4 : W.drew.cell? _ = _ := x4
  replace x5 : W.drew.cell? _ = _ := x5
  replace x6 : W.drew.cell? _ = _ := x6
  replace yc0 : (W.alloc (.cells #[.int .i64 0, .int .i64 0, .int .i64 0] 121)).drew.cell? _ = _ := yc0
  replace yc1 : (W.alloc (.cells #[.int .i64 0, .int .i64 0, .int .i64 0] 121)).drew.cell? _ = _ := yc1
  replace yc2 : (W.alloc (.cells #[.int .i64 0, .int .i64 0, .int .i64 0] 121)).drew.cell? _ = _ := yc2
  replace yx1 : (W.alloc (.cells #[.int .i64 0, .int .i64 0, .int .i64 0] 121)).drew.cell? _ = _ := yx1
  replace yx2 : (W.alloc (.cells #[.int .i64 0, .int .i64 0, .int .i64 0] 121)).drew.cell? _ = _ := yx2
  replace yx3 : (W.alloc (.cells #[.int .i64 0, .int .i64 0, .int .i64 0] 121)).drew.cell? _ = _ := yx3
  replace yx4 : (W.alloc (.cells #[.int .i64 0, .int .i64 0, .int .i64 0] 121)).drew.cell? _ = _ := yx4
  replace yx5 : (W.alloc (.cells #[.int .i64 0, .int .i64 0, .int .i64 0] 121)).drew.cell? _ = _ := yx5
  replace yx6 : (W.alloc (.cells #[.int .i64 0, .int .i64 0, .int .i64 0] 121)).drew.cell? _ = _ := yx6
  go_enter Tryz.func38, Tryz.ntmps38
  go_wp2_with fail
  go_cut [7] (fun S wc => ∃ r5 : Nat, S = .pointer (some ⟨r5, 0, none⟩) ∧ Hid (Below W.heap.size W wc) ∧ Hid (wc.heap[r5]? = some (.cells #[.int .i64 ak, .int .i64 ae, .int .i64 ix] 121 (0, 0))))
  case first => as_aux_lemma =>
    go_region_held3 (fun w' => w'.cell? ⟨g, 0, none⟩ = some (.slice P.oa pn P.cap) ∧ w'.cell? ⟨g, 1, none⟩ = some (.int .i64 pk) ∧ w'.cell? ⟨g, 2, none⟩ = some (.int .i64 pe) ∧ w'.cell? ⟨g, 783 + n * 31 + 7, none⟩ = some (.int .u32 k.arch) ∧ w'.cell? ⟨g, 783 + n * 31 + 8, none⟩ = some (.int .u32 k.nr) ∧ w'.cell? ⟨g, 783 + n * 31 + 9, none⟩ = some (.int .u64 k.a0) ∧ w'.cell? ⟨g, 783 + n * 31 + 10, none⟩ = some (.int .u64 k.a1) ∧ w'.cell? ⟨g, 783 + n * 31 + 11, none⟩ = some (.int .u64 k.a2) ∧ w'.cell? ⟨g, 783 + n * 31 + 12, none⟩ = some (.int .u64 k.a3))
      (first | (with_reducible exact ⟨c0, c1, c2, x1, x2, x3, x4, x5, x6⟩) | (with_reducible exact ⟨yc0, yc1, yc2, yx1, yx2, yx3, yx4, yx5, yx6⟩) | (with_reducible exact ⟨r0, r1, r2, r3, r4, r5, r6, r7, r8⟩) | (with_reducible exact ⟨keep_cell (box_below W.drew _) c0, keep_cell (box_below W.drew _) c1, keep_cell (box_below W.drew _) c2, keep_cell (box_below W.drew _) x1, keep_cell (box_below W.drew _) x2, keep_cell (box_below W.drew _) x3, keep_cell (box_below W.drew _) x4, keep_cell (box_below W.drew _) x5, keep_cell (box_below W.drew _) x6⟩) | (with_reducible exact ⟨keep_cell (box_below Y _) r0, keep_cell (box_below Y _) r1, keep_cell (box_below Y _) r2, keep_cell (box_below Y _) r3, keep_cell (box_below Y _) r4, keep_cell (box_below Y _) r5, keep_cell (box_below Y _) r6, keep_cell (box_below Y _) r7, keep_cell (box_below Y _) r8⟩) | (with_reducible exact ⟨keepv hgW r0, keepv hgW r1, keepv hgW r2, keepv hgW r3, keepv hgW r4, keepv hgW r5, keepv hgW r6, keepv hgW r7, keepv hgW r8⟩) | go_keep)
      ((first
        | (go_at_call 65; with_reducible refine (HJ W.drew HI.out).mono ?_; rintro e Y ⟨rfl, hY⟩; have HB := hide (below_next (Below.refl _ W).drew hY); have r0 := keep_cell hY c0; have r1 := keep_cell hY c1; have r2 := keep_cell hY c2; have r3 := keep_cell hY x1; have r4 := keep_cell hY x2; have r5 := keep_cell hY x3; have r6 := keep_cell hY x4; have r7 := keep_cell hY x5; have r8 := keep_cell hY x6; clear hY)
        | (go_at_call 65; refine (HJ (W.alloc (.cells #[.int .i64 0, .int .i64 0, .int .i64 0] 121)).drew HI2.out).mono ?_; rintro e Y ⟨rfl, hY⟩; have HB := hide (below_next (box_below W (.cells #[.int .i64 0, .int .i64 0, .int .i64 0] 121)).drew hY); have r0 := keep_cell hY yc0; have r1 := keep_cell hY yc1; have r2 := keep_cell hY yc2; have r3 := keep_cell hY yx1; have r4 := keep_cell hY yx2; have r5 := keep_cell hY yx3; have r6 := keep_cell hY yx4; have r7 := keep_cell hY yx5; have r8 := keep_cell hY yx6; have uh := (hY.block W.heap.size (by show _ < (W.alloc _).heap.size; rw [World.size_alloc]; exact Nat.lt_succ_self _)).trans zb; obtain ⟨⟨p0, p1, p2⟩, g0, g1, g2⟩ := vrow_cells uh; clear hY)))
    all_goals
      go_wp2_with fail
      go_meet
      case rel => first
        | with_reducible exact ⟨Y.heap.size, rfl, hide (below_next HB.out (box_below _ _)), hide (heap_alloc_new _ _)⟩
        | exact ⟨W.heap.size, rfl, hide (by rw [vset3 uh]; exact below_setRow HB.out (Nat.le_refl _) _), hide (by rw [vset3 uh]; exact setRow_heap _ _ _ _ _ _ uh)⟩
  case rest => as_aux_lemma =>
    obtain ⟨r5, rfl, HB, HR⟩ := hcut
    clear c0 c1 c2 x1 x2 x3 x4 x5 x6 yc0 yc1 yc2 yx1 yx2 yx3 yx4 yx5 yx6 zb HI HI2 HJ cp
    have d0 : wc.cell? ⟨r5, 0, none⟩ = some (.int .i64 ak) := cell_of_row _ _ 0 _ _ _ HR.out
    have d1 : wc.cell? ⟨r5, 1, none⟩ = some (.int .i64 ae) := cell_of_row _ _ 1 _ _ _ HR.out
    have HX := hide (HH.out.on HB.out)
    have HFB := hide (DFr.of (g := g) sv lv HB.out)
    by_cases h4 : ak = 4
    · rw [if_pos h4] at HFS
      have h8 := htr h4
      subst h4
      have cp := HX.out.phase n hn
      have fp := HX.out.fro (783 + n * 31)
      have HS : Hid (DX g P (d.put n { d.T n with phase := 2 }) sv lv (wc.setCell ⟨g, 783 + n * 31, none⟩ (.int .i64 2))) := hide (HX.out.setPhase n 2 hn)
      have HF2 := hide (HFB.out.trans (DFr.set (g := g) sv lv wc (783 + n * 31) (.int .i64 2)))
      obtain ⟨kc, hkc⟩ : ∃ c, c = klC k := ⟨_, rfl⟩
      have hks : kc.toList.length = 6 := by rw [hkc]; rfl
      have hrng := HS.out.nowr n hn
      rw [T_dput, show nowK { d.T n with phase := 2 } = k from HNK.out, ← hkc] at hrng
      have HP : Calls Tryz.prog 66 #[klV k, .int .i64 0] (wc.setCell ⟨g, 783 + n * 31, none⟩ (.int .i64 2)) fun e w' => e = .returned (.int .i64 (nextPt k.nr 0 : Nat)) ∧ Below (wc.setCell ⟨g, 783 + n * 31, none⟩ (.int .i64 2)).heap.size (wc.setCell ⟨g, 783 + n * 31, none⟩ (.int .i64 2)) w' := pointer_any k h8 0 (by omega) _
      unfold klV at HP
      rw [← hkc] at HP
      obtain ⟨np, hnp⟩ : ∃ m, m = nextPt k.nr 0 := ⟨_, rfl⟩
      rw [← hnp] at HP HFS
      clear hnp hkc
      go_wp2_with (first | (refine wpList_load_mid rfl 52 (.tmp 48) rfl g (783 + n * 31 + 7) rfl kc.toList _ hrng Tryz.underlying52 rfl (by rw [hks]; exact size_call6) ?_; rw [show kc.toList.toArray = kc from Array.toArray_toList]))
      refine HP.mono ?_
      rintro e w2 ⟨rfl, hw2⟩
      have HX2 := hide (HS.out.on hw2)
      have HF3 := hide (HF2.out.trans (DFr.of sv lv hw2))
      have ca : w2.cell? ⟨g, 783 + n * 31 + 17, none⟩ = some (cellDT { d.T n with phase := 2 } (sv n) 17) := by rw [HX2.out.th n 17 hn (by omega), T_dput]
      have fa := HX2.out.fro (783 + n * 31 + 17)
      have HS2 := hide (HX2.out.setT' 17 hn (by omega) (.int .i64 (np : Nat)) { d.T n with phase := 2, arg := np } rfl (fun j => cellDT_argx { d.T n with phase := 2 } (sv n) np j))
      clear hw2
      go_wp2
      go_ret2
      rw [HFS.out]
      exact ⟨rfl, sv, lv, HS2.out, HF3.out.trans (DFr.set sv lv _ _ _)⟩
    · rw [if_neg h4] at HFS
      have ha := hact.resolve_left h4
      have HD := ddone_any n hn ⟨ak, ae⟩ ha 5 HX.out hlog hs64
      unfold actV at HD
      simp only at HD
      have b4 : (ak == 4) = false := by simpa using h4
      clear hact ha
      go_wp2_with fail
      refine HD.mono ?_
      rintro e w' hG
      obtain ⟨rfl, h1⟩ := DGoes.from HFB.out hG
      clear hG
      go_wp2
      go_ret2
      rw [HFS.out]
      exact ⟨rfl, h1⟩
set_option maxHeartbeats 4000000 in
set_option maxRecDepth 20000 in
theorem dstep_3 {g : Nat} {P : PV} {d : DWS} {sv : Nat → Value} {lv : Value} {W : World} (n : Nat) (hn : n < 3) (hp : polF P.p = 0) (hok : PolOk P.p) (hk : KlOk (d.T n).asked) (hvo : VsOk (vsOf (d.T n).vals)) (hq : (d.T n).phase = 3) (h : DX g P d sv lv W) (hlog : d.log.length ≤ 1000000) (hs64 : SealOk (d.T n)) :
    Calls Tryz.prog 38 #[.pointer (some ⟨g, 0, none⟩), .int .i64 n] W (DStepd g P (ddone n (decideR P.p (d.T n).asked (vsOf (d.T n).vals)) 4 d) sv lv W true 0) := by
  have j0 : ¬ (n : Int) < 0 := by omega
  have j1 : (0 : Int) ≤ n := by omega
  have j2 : ¬ (2 : Int) < n := by omega
  have j3 : (n : Int) < 3 := by omega
  have cp := h.phase n hn
  rw [hq] at cp
  obtain ⟨k, hkk⟩ : ∃ k, k = (d.T n).asked := ⟨_, rfl⟩
  obtain ⟨v, hvv⟩ : ∃ v, v = vsOf (d.T n).vals := ⟨_, rfl⟩
  rw [← hkk] at hk
  rw [← hvv] at hvo
  rw [← hkk, ← hvv]
  have HJ := fun X hX => rdecide_any P.p hok P.oa P.cap k hk v hvo X hX
  have hact := decide_act hp k v
  obtain ⟨⟨ak, ae⟩, hv⟩ : ∃ a, a = decideR P.p k v := ⟨_, rfl⟩
  rw [← hv] at HJ hact
  rw [← hv]
  unfold actV polV klV klC vsV vsC at HJ
  simp only at HJ hact
  have c0 : W.cell? ⟨g, 0, none⟩ = some (.slice P.oa P.p.rules.length P.cap) := h.cell 0 (by omega) (.inl (by omega))
  have c1 : W.cell? ⟨g, 1, none⟩ = some (.int .i64 P.p.els.kind) := h.cell 1 (by omega) (.inl (by omega))
  have c2 : W.cell? ⟨g, 2, none⟩ = some (.int .i64 P.p.els.errno) := h.cell 2 (by omega) (.inl (by omega))
  have x1 := h.th n 1 hn (by omega)
  have x2 := h.th n 2 hn (by omega)
  have x3 := h.th n 3 hn (by omega)
  have x4 := h.th n 4 hn (by omega)
  have x5 := h.th n 5 hn (by omega)
  have x6 := h.th n 6 hn (by omega)
  rw [(cellDT_asked _ _).1, ← hkk] at x1
  rw [(cellDT_asked _ _).2.1, ← hkk] at x2
  rw [(cellDT_asked _ _).2.2.1, ← hkk] at x3
  rw [(cellDT_asked _ _).2.2.2.1, ← hkk] at x4
  rw [(cellDT_asked _ _).2.2.2.2.1, ← hkk] at x5
  rw [(cellDT_asked _ _).2.2.2.2.2, ← hkk] at x6
  have v0 : W.cell? ⟨g, 783 + n * 31 + 18, none⟩ = some (.string v.v0.path) := by rw [h.th n 18 hn (by omega), hvv]; exact congrArg some (cellDT_val _ _ 0 (by omega)).1
  have v1 : W.cell? ⟨g, 783 + n * 31 + 19, none⟩ = some (.int .u32 v.v0.ip) := by rw [h.th n 19 hn (by omega), hvv]; exact congrArg some (cellDT_val _ _ 0 (by omega)).2.1
  have v2 : W.cell? ⟨g, 783 + n * 31 + 20, none⟩ = some (.int .i64 v.v0.port) := by rw [h.th n 20 hn (by omega), hvv]; exact congrArg some (cellDT_val _ _ 0 (by omega)).2.2
  have v3 : W.cell? ⟨g, 783 + n * 31 + 21, none⟩ = some (.string v.v1.path) := by rw [h.th n 21 hn (by omega), hvv]; exact congrArg some (cellDT_val _ _ 1 (by omega)).1
  have v4 : W.cell? ⟨g, 783 + n * 31 + 22, none⟩ = some (.int .u32 v.v1.ip) := by rw [h.th n 22 hn (by omega), hvv]; exact congrArg some (cellDT_val _ _ 1 (by omega)).2.1
  have v5 : W.cell? ⟨g, 783 + n * 31 + 23, none⟩ = some (.int .i64 v.v1.port) := by rw [h.th n 23 hn (by omega), hvv]; exact congrArg some (cellDT_val _ _ 1 (by omega)).2.2
  have v6 : W.cell? ⟨g, 783 + n * 31 + 24, none⟩ = some (.string v.v2.path) := by rw [h.th n 24 hn (by omega), hvv]; exact congrArg some (cellDT_val _ _ 2 (by omega)).1
  have v7 : W.cell? ⟨g, 783 + n * 31 + 25, none⟩ = some (.int .u32 v.v2.ip) := by rw [h.th n 25 hn (by omega), hvv]; exact congrArg some (cellDT_val _ _ 2 (by omega)).2.1
  have v8 : W.cell? ⟨g, 783 + n * 31 + 26, none⟩ = some (.int .i64 v.v2.port) := by rw [h.th n 26 hn (by omega), hvv]; exact congrArg some (cellDT_val _ _ 2 (by omega)).2.2
  have v9 : W.cell? ⟨g, 783 + n * 31 + 27, none⟩ = some (.string v.v3.path) := by rw [h.th n 27 hn (by omega), hvv]; exact congrArg some (cellDT_val _ _ 3 (by omega)).1
  have v10 : W.cell? ⟨g, 783 + n * 31 + 28, none⟩ = some (.int .u32 v.v3.ip) := by rw [h.th n 28 hn (by omega), hvv]; exact congrArg some (cellDT_val _ _ 3 (by omega)).2.1
  have v11 : W.cell? ⟨g, 783 + n * 31 + 29, none⟩ = some (.int .i64 v.v3.port) := by rw [h.th n 29 hn (by omega), hvv]; exact congrArg some (cellDT_val _ _ 3 (by omega)).2.2
  have hI := h.pol'
  have HI := hide (hI.on (Below.refl _ W).drew)
  have HH := hide (h.on (Below.refl _ W).drew)
  have HDW := hide (DFr.of (g := g) sv lv (Below.refl _ W).drew)
  obtain ⟨pn, hpn⟩ : ∃ m, m = P.p.rules.length := ⟨_, rfl⟩
  obtain ⟨pk, hpk⟩ : ∃ m, m = P.p.els.kind := ⟨_, rfl⟩
  obtain ⟨pe, hpe⟩ : ∃ m, m = P.p.els.errno := ⟨_, rfl⟩
  rw [← hpn] at c0
  rw [← hpk] at c1
  rw [← hpe] at c2
  rw [← hpn, ← hpk, ← hpe] at HJ
  have HD := fun X (hX : DX g P d sv lv X) => ddone_any n hn ⟨ak, ae⟩ hact 4 hX hlog hs64
  unfold actV at HD
  simp only at HD
  clear h hI hkk hvv hv hpn hpk hpe hk hvo hact hs64 hq
  replace c0 : W.drew.cell? _ = _ := c0
  replace c1 : W.drew.cell? _ = _ := c1
  replace c2 : W.drew.cell? _ = _ := c2
  replace x1 : W.drew.cell? _ = _ := x1
  replace x2 : W.drew.cell? _ = _ := x2
  replace x3 : W.drew.cell? _ = _ := x3
  replace x4 : W.drew.cell? _ = _ := x4
  replace x5 : W.drew.cell? _ = _ := x5
  replace x6 : W.drew.cell? _ = _ := x6
  replace v0 : W.drew.cell? _ = _ := v0
  replace v1 : W.drew.cell? _ = _ := v1
  replace v2 : W.drew.cell? _ = _ := v2
  replace v3 : W.drew.cell? _ = _ := v3
  replace v4 : W.drew.cell? _ = _ := v4
  replace v5 : W.drew.cell? _ = _ := v5
  replace v6 : W.drew.cell? _ = _ := v6
  replace v7 : W.drew.cell? _ = _ := v7
  replace v8 : W.drew.cell? _ = _ := v8
  replace v9 : W.drew.cell? _ = _ := v9
  replace v10 : W.drew.cell? _ = _ := v10
  replace v11 : W.drew.cell? _ = _ := v11
  go_enter Tryz.func38, Tryz.ntmps38
  go_wp2_with fail
  refine wp_region_any (by kernel_rfl) ?_
  change wpAny _ _ _ _ _ _ _ (World.drew _)
  refine Gl.wpAny_takeOf 0 (some 65) (Value.pointer (some ⟨g, 0, none⟩)) rfl rfl (by kernel_rfl) (by kernel_rfl) (by kernel_rfl) (fun _ _ _ h => h) (Or.inl ⟨by rfl, ?_⟩) ?_
  · intro wx
    go_simp
  try simp only [Act.put, List.setIfInBounds_toArray, List.set_cons_zero, List.set_cons_succ]
  refine Gl.wpAny_takeOf 1 (some 66) (.int .i64 n) rfl rfl (by kernel_rfl) (by kernel_rfl) (by kernel_rfl) (fun _ _ _ h => h) (Or.inl ⟨by rfl, ?_⟩) ?_
  · intro wx
    go_simp
  try simp only [Act.put, List.setIfInBounds_toArray, List.set_cons_zero, List.set_cons_succ]
  refine Gl.wpAny_takeOf 2 (some 67) (Value.pointer (some ⟨g, 0, none⟩)) rfl rfl (by kernel_rfl) (by kernel_rfl) (by kernel_rfl) (fun _ _ _ h => h) (Or.inl ⟨by rfl, ?_⟩) ?_
  · intro wx
    go_simp
  try simp only [Act.put, List.setIfInBounds_toArray, List.set_cons_zero, List.set_cons_succ]
  refine Gl.wpAny_takeOf 3 (some 68) (Value.pointer (some ⟨g, 0, none⟩)) rfl rfl (by kernel_rfl) (by kernel_rfl) (by kernel_rfl) (fun _ _ _ h => h) (Or.inl ⟨by rfl, ?_⟩) ?_
  · intro wx
    go_simp
  try simp only [Act.put, List.setIfInBounds_toArray, List.set_cons_zero, List.set_cons_succ]
  refine Gl.wpAny_takeOf 4 (some 69) (Value.pointer (some ⟨g, 0, none⟩)) rfl rfl (by kernel_rfl) (by kernel_rfl) (by kernel_rfl) (fun _ _ _ h => h) (Or.inl ⟨by rfl, ?_⟩) ?_
  · intro wx
    go_simp
  try simp only [Act.put, List.setIfInBounds_toArray, List.set_cons_zero, List.set_cons_succ]
  refine Gl.wpAny_takeOf 6 (some 71) (Value.pointer (some ⟨g, 783 + n * 31, none⟩)) rfl rfl (by kernel_rfl) (by kernel_rfl) (by kernel_rfl) (fun _ _ _ h => h) (Or.inl ⟨by rfl, ?_⟩) ?_
  · intro wx
    go_simp
  try simp only [Act.put, List.setIfInBounds_toArray, List.set_cons_zero, List.set_cons_succ]
  refine Gl.wpAny_takeOf 7 (some 72) (Value.pointer (some ⟨g, 783 + n * 31, none⟩)) rfl rfl (by kernel_rfl) (by kernel_rfl) (by kernel_rfl) (fun _ _ _ h => h) (Or.inl ⟨by rfl, ?_⟩) ?_
  · intro wx
    go_simp
  try simp only [Act.put, List.setIfInBounds_toArray, List.set_cons_zero, List.set_cons_succ]
  refine Gl.wpAny_takeOf 8 (some 73) (Value.pointer (some ⟨g, 783 + n * 31 + 1, none⟩)) rfl rfl (by kernel_rfl) (by kernel_rfl) (by kernel_rfl) (fun _ _ _ h => h) (Or.inl ⟨by rfl, ?_⟩) ?_
  · intro wx
    go_simp
  try simp only [Act.put, List.setIfInBounds_toArray, List.set_cons_zero, List.set_cons_succ]
  refine Gl.wpAny_takeOf 10 (some 75) (Value.pointer (some ⟨g, 783 + n * 31, none⟩)) rfl rfl (by kernel_rfl) (by kernel_rfl) (by kernel_rfl) (fun _ _ _ h => h) (Or.inl ⟨by rfl, ?_⟩) ?_
  · intro wx
    go_simp
  try simp only [Act.put, List.setIfInBounds_toArray, List.set_cons_zero, List.set_cons_succ]
  refine Gl.wpAny_takeOf 11 (some 76) (Value.pointer (some ⟨g, 783 + n * 31, none⟩)) rfl rfl (by kernel_rfl) (by kernel_rfl) (by kernel_rfl) (fun _ _ _ h => h) (Or.inl ⟨by rfl, ?_⟩) ?_
  · intro wx
    go_simp
  try simp only [Act.put, List.setIfInBounds_toArray, List.set_cons_zero, List.set_cons_succ]
  refine Gl.wpAny_takeOf 12 (some 77) (Value.pointer (some ⟨g, 783 + n * 31 + 18, none⟩)) rfl rfl (by kernel_rfl) (by kernel_rfl) (by kernel_rfl) (fun _ _ _ h => h) (Or.inl ⟨by rfl, ?_⟩) ?_
  · intro wx
    go_simp
  try simp only [Act.put, List.setIfInBounds_toArray, List.set_cons_zero, List.set_cons_succ]
  refine wpAny_three (i := 5) (j := 9) (k := 13) (by kernel_rfl) rfl rfl rfl rfl rfl rfl (fun K hK => ?_) (fun K hK => ?_) (fun K hK => ?_)
  · go_simp
    refine hK _ _ ?_
    clear hK K
    try simp only [Act.put, List.setIfInBounds_toArray, List.set_cons_zero, List.set_cons_succ]
    refine wpAny_two (i := 9) (j := 13) (by kernel_rfl) rfl rfl rfl rfl (fun K hK => ?_) (fun K hK => ?_)
    · go_simp
      refine hK _ _ ?_
      clear hK K
      try simp only [Act.put, List.setIfInBounds_toArray, List.set_cons_zero, List.set_cons_succ]
      refine Gl.wpAny_only (i := 13) (by kernel_rfl) rfl rfl (fun K hK => ?_)
      go_simp
      refine hK _ _ ?_
      clear hK K
      try simp only [Act.put, List.setIfInBounds_toArray, List.set_cons_zero, List.set_cons_succ]
      refine Gl.wpAny_only (i := 14) (by kernel_rfl) rfl rfl (fun K hK => ?_)
      refine Gl.wp_callOf 69 #[.agg #[.slice P.oa pn P.cap, .int .i64 pk, .int .i64 pe], .agg #[.int .u32 k.arch, .int .u32 k.nr, .int .u64 k.a0, .int .u64 k.a1, .int .u64 k.a2, .int .u64 k.a3], .agg #[.string v.v0.path, .int .u32 v.v0.ip, .int .i64 v.v0.port, .string v.v1.path, .int .u32 v.v1.ip, .int .i64 v.v1.port, .string v.v2.path, .int .u32 v.v2.ip, .int .i64 v.v2.port, .string v.v3.path, .int .u32 v.v3.ip, .int .i64 v.v3.port]] (by kernel_rfl) (HJ W.drew HI.out) ?_
      rintro e Y ⟨rfl, hY⟩
      have HY := hide (HH.out.on hY)
      have HFY := hide (HDW.out.trans (DFr.of sv lv hY))
      clear hY
      refine ⟨_, rfl, hK _ _ ?_⟩
      clear hK K
      try simp only [Act.put, List.setIfInBounds_toArray, List.set_cons_zero, List.set_cons_succ]
      refine Gl.wpAny_only (i := 15) (by kernel_rfl) rfl rfl (fun K hK => ?_)
      refine Gl.wp_callOf 67 #[.pointer (some ⟨g, 0, none⟩), .int .i64 n, .agg #[.int .i64 ak, .int .i64 ae], .int .i64 4] (by kernel_rfl) (HD _ HY.out) ?_
      rintro e Z ⟨rfl, sv2, lv2, hZ1, hZ2⟩
      have HZ := hide (And.intro hZ1 (HFY.out.trans hZ2))
      clear hZ1 hZ2
      refine ⟨_, rfl, hK _ _ ?_⟩
      clear hK K
      try simp only [Act.put, List.setIfInBounds_toArray, List.set_cons_zero, List.set_cons_succ]
      refine wpAny_done (by kernel_rfl) ?_ _
      go_wp2
      go_ret2
      exact ⟨rfl, sv2, lv2, HZ.out.1, HZ.out.2⟩
    · go_simp
      refine hK _ _ ?_
      clear hK K
      try simp only [Act.put, List.setIfInBounds_toArray, List.set_cons_zero, List.set_cons_succ]
      refine Gl.wpAny_only (i := 9) (by kernel_rfl) rfl rfl (fun K hK => ?_)
      go_simp
      refine hK _ _ ?_
      clear hK K
      try simp only [Act.put, List.setIfInBounds_toArray, List.set_cons_zero, List.set_cons_succ]
      refine Gl.wpAny_only (i := 14) (by kernel_rfl) rfl rfl (fun K hK => ?_)
      refine Gl.wp_callOf 69 #[.agg #[.slice P.oa pn P.cap, .int .i64 pk, .int .i64 pe], .agg #[.int .u32 k.arch, .int .u32 k.nr, .int .u64 k.a0, .int .u64 k.a1, .int .u64 k.a2, .int .u64 k.a3], .agg #[.string v.v0.path, .int .u32 v.v0.ip, .int .i64 v.v0.port, .string v.v1.path, .int .u32 v.v1.ip, .int .i64 v.v1.port, .string v.v2.path, .int .u32 v.v2.ip, .int .i64 v.v2.port, .string v.v3.path, .int .u32 v.v3.ip, .int .i64 v.v3.port]] (by kernel_rfl) (HJ W.drew HI.out) ?_
      rintro e Y ⟨rfl, hY⟩
      have HY := hide (HH.out.on hY)
      have HFY := hide (HDW.out.trans (DFr.of sv lv hY))
      clear hY
      refine ⟨_, rfl, hK _ _ ?_⟩
      clear hK K
      try simp only [Act.put, List.setIfInBounds_toArray, List.set_cons_zero, List.set_cons_succ]
      refine Gl.wpAny_only (i := 15) (by kernel_rfl) rfl rfl (fun K hK => ?_)
      refine Gl.wp_callOf 67 #[.pointer (some ⟨g, 0, none⟩), .int .i64 n, .agg #[.int .i64 ak, .int .i64 ae], .int .i64 4] (by kernel_rfl) (HD _ HY.out) ?_
      rintro e Z ⟨rfl, sv2, lv2, hZ1, hZ2⟩
      have HZ := hide (And.intro hZ1 (HFY.out.trans hZ2))
      clear hZ1 hZ2
      refine ⟨_, rfl, hK _ _ ?_⟩
      clear hK K
      try simp only [Act.put, List.setIfInBounds_toArray, List.set_cons_zero, List.set_cons_succ]
      refine wpAny_done (by kernel_rfl) ?_ _
      go_wp2
      go_ret2
      exact ⟨rfl, sv2, lv2, HZ.out.1, HZ.out.2⟩
  · go_simp
    refine hK _ _ ?_
    clear hK K
    try simp only [Act.put, List.setIfInBounds_toArray, List.set_cons_zero, List.set_cons_succ]
    refine wpAny_two (i := 5) (j := 13) (by kernel_rfl) rfl rfl rfl rfl (fun K hK => ?_) (fun K hK => ?_)
    · go_simp
      refine hK _ _ ?_
      clear hK K
      try simp only [Act.put, List.setIfInBounds_toArray, List.set_cons_zero, List.set_cons_succ]
      refine Gl.wpAny_only (i := 13) (by kernel_rfl) rfl rfl (fun K hK => ?_)
      go_simp
      refine hK _ _ ?_
      clear hK K
      try simp only [Act.put, List.setIfInBounds_toArray, List.set_cons_zero, List.set_cons_succ]
      refine Gl.wpAny_only (i := 14) (by kernel_rfl) rfl rfl (fun K hK => ?_)
      refine Gl.wp_callOf 69 #[.agg #[.slice P.oa pn P.cap, .int .i64 pk, .int .i64 pe], .agg #[.int .u32 k.arch, .int .u32 k.nr, .int .u64 k.a0, .int .u64 k.a1, .int .u64 k.a2, .int .u64 k.a3], .agg #[.string v.v0.path, .int .u32 v.v0.ip, .int .i64 v.v0.port, .string v.v1.path, .int .u32 v.v1.ip, .int .i64 v.v1.port, .string v.v2.path, .int .u32 v.v2.ip, .int .i64 v.v2.port, .string v.v3.path, .int .u32 v.v3.ip, .int .i64 v.v3.port]] (by kernel_rfl) (HJ W.drew HI.out) ?_
      rintro e Y ⟨rfl, hY⟩
      have HY := hide (HH.out.on hY)
      have HFY := hide (HDW.out.trans (DFr.of sv lv hY))
      clear hY
      refine ⟨_, rfl, hK _ _ ?_⟩
      clear hK K
      try simp only [Act.put, List.setIfInBounds_toArray, List.set_cons_zero, List.set_cons_succ]
      refine Gl.wpAny_only (i := 15) (by kernel_rfl) rfl rfl (fun K hK => ?_)
      refine Gl.wp_callOf 67 #[.pointer (some ⟨g, 0, none⟩), .int .i64 n, .agg #[.int .i64 ak, .int .i64 ae], .int .i64 4] (by kernel_rfl) (HD _ HY.out) ?_
      rintro e Z ⟨rfl, sv2, lv2, hZ1, hZ2⟩
      have HZ := hide (And.intro hZ1 (HFY.out.trans hZ2))
      clear hZ1 hZ2
      refine ⟨_, rfl, hK _ _ ?_⟩
      clear hK K
      try simp only [Act.put, List.setIfInBounds_toArray, List.set_cons_zero, List.set_cons_succ]
      refine wpAny_done (by kernel_rfl) ?_ _
      go_wp2
      go_ret2
      exact ⟨rfl, sv2, lv2, HZ.out.1, HZ.out.2⟩
    · go_simp
      refine hK _ _ ?_
      clear hK K
      try simp only [Act.put, List.setIfInBounds_toArray, List.set_cons_zero, List.set_cons_succ]
      refine Gl.wpAny_only (i := 5) (by kernel_rfl) rfl rfl (fun K hK => ?_)
      go_simp
      refine hK _ _ ?_
      clear hK K
      try simp only [Act.put, List.setIfInBounds_toArray, List.set_cons_zero, List.set_cons_succ]
      refine Gl.wpAny_only (i := 14) (by kernel_rfl) rfl rfl (fun K hK => ?_)
      refine Gl.wp_callOf 69 #[.agg #[.slice P.oa pn P.cap, .int .i64 pk, .int .i64 pe], .agg #[.int .u32 k.arch, .int .u32 k.nr, .int .u64 k.a0, .int .u64 k.a1, .int .u64 k.a2, .int .u64 k.a3], .agg #[.string v.v0.path, .int .u32 v.v0.ip, .int .i64 v.v0.port, .string v.v1.path, .int .u32 v.v1.ip, .int .i64 v.v1.port, .string v.v2.path, .int .u32 v.v2.ip, .int .i64 v.v2.port, .string v.v3.path, .int .u32 v.v3.ip, .int .i64 v.v3.port]] (by kernel_rfl) (HJ W.drew HI.out) ?_
      rintro e Y ⟨rfl, hY⟩
      have HY := hide (HH.out.on hY)
      have HFY := hide (HDW.out.trans (DFr.of sv lv hY))
      clear hY
      refine ⟨_, rfl, hK _ _ ?_⟩
      clear hK K
      try simp only [Act.put, List.setIfInBounds_toArray, List.set_cons_zero, List.set_cons_succ]
      refine Gl.wpAny_only (i := 15) (by kernel_rfl) rfl rfl (fun K hK => ?_)
      refine Gl.wp_callOf 67 #[.pointer (some ⟨g, 0, none⟩), .int .i64 n, .agg #[.int .i64 ak, .int .i64 ae], .int .i64 4] (by kernel_rfl) (HD _ HY.out) ?_
      rintro e Z ⟨rfl, sv2, lv2, hZ1, hZ2⟩
      have HZ := hide (And.intro hZ1 (HFY.out.trans hZ2))
      clear hZ1 hZ2
      refine ⟨_, rfl, hK _ _ ?_⟩
      clear hK K
      try simp only [Act.put, List.setIfInBounds_toArray, List.set_cons_zero, List.set_cons_succ]
      refine wpAny_done (by kernel_rfl) ?_ _
      go_wp2
      go_ret2
      exact ⟨rfl, sv2, lv2, HZ.out.1, HZ.out.2⟩
  · go_simp
    refine hK _ _ ?_
    clear hK K
    try simp only [Act.put, List.setIfInBounds_toArray, List.set_cons_zero, List.set_cons_succ]
    refine wpAny_two (i := 5) (j := 9) (by kernel_rfl) rfl rfl rfl rfl (fun K hK => ?_) (fun K hK => ?_)
    · go_simp
      refine hK _ _ ?_
      clear hK K
      try simp only [Act.put, List.setIfInBounds_toArray, List.set_cons_zero, List.set_cons_succ]
      refine Gl.wpAny_only (i := 9) (by kernel_rfl) rfl rfl (fun K hK => ?_)
      go_simp
      refine hK _ _ ?_
      clear hK K
      try simp only [Act.put, List.setIfInBounds_toArray, List.set_cons_zero, List.set_cons_succ]
      refine Gl.wpAny_only (i := 14) (by kernel_rfl) rfl rfl (fun K hK => ?_)
      refine Gl.wp_callOf 69 #[.agg #[.slice P.oa pn P.cap, .int .i64 pk, .int .i64 pe], .agg #[.int .u32 k.arch, .int .u32 k.nr, .int .u64 k.a0, .int .u64 k.a1, .int .u64 k.a2, .int .u64 k.a3], .agg #[.string v.v0.path, .int .u32 v.v0.ip, .int .i64 v.v0.port, .string v.v1.path, .int .u32 v.v1.ip, .int .i64 v.v1.port, .string v.v2.path, .int .u32 v.v2.ip, .int .i64 v.v2.port, .string v.v3.path, .int .u32 v.v3.ip, .int .i64 v.v3.port]] (by kernel_rfl) (HJ W.drew HI.out) ?_
      rintro e Y ⟨rfl, hY⟩
      have HY := hide (HH.out.on hY)
      have HFY := hide (HDW.out.trans (DFr.of sv lv hY))
      clear hY
      refine ⟨_, rfl, hK _ _ ?_⟩
      clear hK K
      try simp only [Act.put, List.setIfInBounds_toArray, List.set_cons_zero, List.set_cons_succ]
      refine Gl.wpAny_only (i := 15) (by kernel_rfl) rfl rfl (fun K hK => ?_)
      refine Gl.wp_callOf 67 #[.pointer (some ⟨g, 0, none⟩), .int .i64 n, .agg #[.int .i64 ak, .int .i64 ae], .int .i64 4] (by kernel_rfl) (HD _ HY.out) ?_
      rintro e Z ⟨rfl, sv2, lv2, hZ1, hZ2⟩
      have HZ := hide (And.intro hZ1 (HFY.out.trans hZ2))
      clear hZ1 hZ2
      refine ⟨_, rfl, hK _ _ ?_⟩
      clear hK K
      try simp only [Act.put, List.setIfInBounds_toArray, List.set_cons_zero, List.set_cons_succ]
      refine wpAny_done (by kernel_rfl) ?_ _
      go_wp2
      go_ret2
      exact ⟨rfl, sv2, lv2, HZ.out.1, HZ.out.2⟩
    · go_simp
      refine hK _ _ ?_
      clear hK K
      try simp only [Act.put, List.setIfInBounds_toArray, List.set_cons_zero, List.set_cons_succ]
      refine Gl.wpAny_only (i := 5) (by kernel_rfl) rfl rfl (fun K hK => ?_)
      go_simp
      refine hK _ _ ?_
      clear hK K
      try simp only [Act.put, List.setIfInBounds_toArray, List.set_cons_zero, List.set_cons_succ]
      refine Gl.wpAny_only (i := 14) (by kernel_rfl) rfl rfl (fun K hK => ?_)
      refine Gl.wp_callOf 69 #[.agg #[.slice P.oa pn P.cap, .int .i64 pk, .int .i64 pe], .agg #[.int .u32 k.arch, .int .u32 k.nr, .int .u64 k.a0, .int .u64 k.a1, .int .u64 k.a2, .int .u64 k.a3], .agg #[.string v.v0.path, .int .u32 v.v0.ip, .int .i64 v.v0.port, .string v.v1.path, .int .u32 v.v1.ip, .int .i64 v.v1.port, .string v.v2.path, .int .u32 v.v2.ip, .int .i64 v.v2.port, .string v.v3.path, .int .u32 v.v3.ip, .int .i64 v.v3.port]] (by kernel_rfl) (HJ W.drew HI.out) ?_
      rintro e Y ⟨rfl, hY⟩
      have HY := hide (HH.out.on hY)
      have HFY := hide (HDW.out.trans (DFr.of sv lv hY))
      clear hY
      refine ⟨_, rfl, hK _ _ ?_⟩
      clear hK K
      try simp only [Act.put, List.setIfInBounds_toArray, List.set_cons_zero, List.set_cons_succ]
      refine Gl.wpAny_only (i := 15) (by kernel_rfl) rfl rfl (fun K hK => ?_)
      refine Gl.wp_callOf 67 #[.pointer (some ⟨g, 0, none⟩), .int .i64 n, .agg #[.int .i64 ak, .int .i64 ae], .int .i64 4] (by kernel_rfl) (HD _ HY.out) ?_
      rintro e Z ⟨rfl, sv2, lv2, hZ1, hZ2⟩
      have HZ := hide (And.intro hZ1 (HFY.out.trans hZ2))
      clear hZ1 hZ2
      refine ⟨_, rfl, hK _ _ ?_⟩
      clear hK K
      try simp only [Act.put, List.setIfInBounds_toArray, List.set_cons_zero, List.set_cons_succ]
      refine wpAny_done (by kernel_rfl) ?_ _
      go_wp2
      go_ret2
      exact ⟨rfl, sv2, lv2, HZ.out.1, HZ.out.2⟩
end Go.Proofs.YtklibmijiecbfaaGreat
