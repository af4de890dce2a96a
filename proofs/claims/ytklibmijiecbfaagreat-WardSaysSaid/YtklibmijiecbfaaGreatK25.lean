/- The document's Decide. -/
import Derived.Test.YtklibmijiecbfaaGreatK22
import Derived.Test.YtklibmijiecbfaaGreatK11
import Derived.Test.YtklibmijiecbfaaGreatK24
namespace Go.Proofs.YtklibmijiecbfaaGreat
open Go.RowKit Go.Sort

theorem and_take_false {f0 : Bool} {α : Type} {f : α → Bool} {l : List α} {i : Nat} (h : (f0 && (l.take i).all f) = false) : (f0 && l.all f) = false := by
 cases f0 with
 | false => rfl
 | true =>
  rw [Bool.true_and] at h ⊢
  exact all_take_false h

set_option maxHeartbeats 4000000 in
set_option maxRecDepth 100000 in
theorem rdecide_any (p : POL) (hok : PolOk p) (oa : Option Addr) (cap : Nat) (k : KL) (hk : KlOk k) (v : VS) (hv : VsOk v) (w : World) (hp : IsPol oa cap p w) :
  Calls Tryz.prog 69 #[polV p oa cap, klV k, vsV v] w fun e w' => e = .returned (actV (decideR p k v)) ∧ Below w.heap.size w w' := by
 obtain ⟨n, hn⟩ : ∃ n, n = p.rules.length := ⟨_, rfl⟩
 obtain ⟨vc, hvc⟩ : ∃ c, c = vsC v := ⟨_, rfl⟩
 have hvs : vc.size = 12 := by rw [hvc]; rfl
 obtain ⟨V, hV, hB, hVs, hx, hy, hu, hz⟩ := four_box w #[.slice oa p.rules.length cap, .int .i64 p.els.kind, .int .i64 p.els.errno] (klC k) vc #[.int .i64 0, .int .i64 0] 26 52 68 24
 have HC := hide (pol_parts hp n hn)
 have HRU := hide hok.rules
 have h12 : n ≤ 12 := by have := hok.few; omega
 have HFT := fun r hr oa cap X hc => rfits_any r hr oa cap k hk X hc
 have HU := hide hu
 clear hp hok hk hu
 unfold klC at hV hy
 unfold vsV
 rw [← hvc]
 have HVC := hide hvc
 clear hvc
 obtain ⟨rs, ⟨ak, ae⟩⟩ := p
 have HL := hide (show ∀ i, i < n → ∃ c, rs[i]? = some c ∧ rs.drop i = c :: rs.drop (i + 1) from fun i h => drop_next (by simp only at hn; omega))
 unfold polV klV klC at *
 simp only at *
 rw [← hn] at hV hx ⊢
 have HN := hide hn
 clear hn
 obtain ⟨kar, kn, b0, b1, b2, b3⟩ := k
 simp only at *
 have x0 := hx 0
 have x1 := hx 1
 have x2 := hx 2
 have y0 := hy 0
 have y1 := hy 1
 have y2 := hy 2
 have y3 := hy 3
 have y4 := hy 4
 have y5 := hy 5
 simp only [List.getElem?_toArray, List.getElem?_cons_zero, List.getElem?_cons_succ] at x0 x1 x2 y0 y1 y2 y3 y4 y5
 clear hx hy
 by_cases ha : kar = 3221225534
 ·
  have HJ := hide (show decideR ⟨rs, ⟨ak, ae⟩⟩ ⟨kar, kn, b0, b1, b2, b3⟩ v = decideFrom ⟨kar, kn, b0, b1, b2, b3⟩ v ⟨ak, ae⟩ rs from if_pos ha)
  have ha' : (kar : Int) = 3221225534 := by omega
  rw [ha'] at hV y0 ⊢
  have HKA := hide ha'
  clear ha ha'
  go_enter Tryz.func69, Tryz.ntmps69
  go_wp2
  rw [← hV]
  clear hV
  go_loopw [7] (fun I w' => ∃ i : Nat, i ≤ n ∧ I = .int .i64 i ∧ Hid (decideFrom ⟨kar, kn, b0, b1, b2, b3⟩ v ⟨ak, ae⟩ rs = decideFrom ⟨kar, kn, b0, b1, b2, b3⟩ v ⟨ak, ae⟩ (rs.drop i)) ∧ Hid (Below V.heap.size V w')) (fun I _ => n - (intOf I).toNat)
  case atStart => exact ⟨0, by omega, rfl, hide rfl, hide (Below.refl _ _)⟩
  case round =>
   obtain ⟨i, hi, rfl, HG, HB⟩ := hrel
   have HW := hide (below_next hB HB.out)
   have hsw : w.heap.size + 3 < V.heap.size := by omega
   have g0 := keep_cell HB.out x0
   by_cases hlt : i < n
   ·
    obtain ⟨c, hcs, hdr⟩ := HL.out i hlt
    obtain ⟨b, off, rfl, hbw, HA⟩ := HC.out (by omega)
    obtain ⟨ca, cc, hR0⟩ := HA.out i c hcs
    have hR := hR0.on hbw HW.out
    clear hR0
    have hro := HRU.out c (List.mem_of_getElem? hcs)
    have HF1 := HFT c hro ca cc
    have HIC := hide hR.conds
    have HSH := hide hro.conds
    have HG2 := hide (show decideFrom ⟨kar, kn, b0, b1, b2, b3⟩ v ⟨ak, ae⟩ rs = if fitsB c ⟨kar, kn, b0, b1, b2, b3⟩ && leadsB c v then c.act else decideFrom ⟨kar, kn, b0, b1, b2, b3⟩ v ⟨ak, ae⟩ (rs.drop (i + 1)) by rw [HG.out, hdr, decideFrom])
    have hm4 := hro.few
    have hcm := hR.cap
    have hcl := hR.le
    obtain ⟨fz, hfz⟩ : ∃ z, z = fitsB c ⟨kar, kn, b0, b1, b2, b3⟩ := ⟨_, rfl⟩
    obtain ⟨dz, hdz⟩ : ∃ z, z = deepB c := ⟨_, rfl⟩
    rw [← hfz, ← hdz] at HF1
    rw [← hfz] at HG2
    obtain ⟨p0, p1, p2, p3, _, _, _, _⟩ := hR
    clear hfz hdz hro hcs hdr HG
    obtain ⟨nr, cs, ⟨rk, re⟩⟩ := c
    unfold ruleV at HF1
    unfold leadsB at HG2
    simp only at p0 p1 p2 p3 HF1 HG2 HIC HSH hm4
    simp only [HKA.out] at HF1
    obtain ⟨m, hm⟩ : ∃ m, m = cs.length := ⟨_, rfl⟩
    have HCN := hide (conds_parts HIC.out m hm)
    have HLN := hide (show ∀ i, i < m → ∃ c, cs[i]? = some c ∧ cs.take (i + 1) = cs.take i ++ [c] from fun i h => take_next (by omega))
    rw [← hm] at p1 HF1 hm4
    have HM := hide hm
    clear hm hcm hcl
    have z0 := keep_cell HB.out y0
    have z1 := keep_cell HB.out y1
    have z2 := keep_cell HB.out y2
    have z3 := keep_cell HB.out y3
    have z4 := keep_cell HB.out y4
    have z5 := keep_cell HB.out y5
    have G0 := cell_regrown g0
    have P0 := cell_regrown p0
    have P1 := cell_regrown p1
    have P2 := cell_regrown p2
    have P3 := cell_regrown p3
    have Z0 := cell_regrown z0
    have Z1 := cell_regrown z1
    have Z2 := cell_regrown z2
    have Z3 := cell_regrown z3
    have Z4 := cell_regrown z4
    have Z5 := cell_regrown z5
    have cF : ∀ d os, Calls Tryz.prog 93 #[.agg #[.int .i64 nr, .slice ca m cc, .int .i64 rk, .int .i64 re], .agg #[.int .u32 3221225534, .int .u32 kn, .int .u64 b0, .int .u64 b1, .int .u64 b2, .int .u64 b3]] (grow (redrawn wr d) os) fun e w'' => e = .returned (.tuple #[.bool fz, .bool dz]) ∧ ∃ p : Regrown, w'' = grow (redrawn wr p.d) p.os := fun d os => Calls.regrown_of (HF1 _ (HIC.out.on (below_regrown wr d os)))
    have i1 : (0 : Int) ≤ i := by omega
    go_wp2_with fail
    clear z0 z1 z2 z3 z4 z5
    refine wp_region_quiet_below (by kernel_rfl) (by kernel_rfl) ?_
    repeat (go_big_quiet_step ((go_at_call 93; exact cF _ _)))
    refine wpQuiet_nil ?_
    intro _ hw'
    obtain ⟨⟨dq, osq⟩, hw''⟩ := hw'
    subst hw''
    have HYW := hide (below_regrown wr dq osq)
    have HBQ := hide (below_next HB.out (below_regrown wr dq osq))
    have q1 := P1 dq osq
    have q2 := P2 dq osq
    have q3 := P3 dq osq
    have q0 := G0 dq osq
    clear G0 P0 P1 P2 P3 Z0 Z1 Z2 Z3 Z4 Z5 cF p0 p1 p2 p3 g0
    obtain ⟨Y, hY⟩ : ∃ Y, Y = grow (redrawn wr dq) osq := ⟨_, rfl⟩
    rw [← hY] at HBQ HYW q1 q2 q3 q0 ⊢
    clear hY HF1
    go_wp2
    go_loopw [8, 10] (fun F I w' => ∃ (j : Nat) (f : Bool), j ≤ m ∧ F = .bool f ∧ I = .int .i64 j ∧ Hid (f = (fz && (cs.take j).all (leadB v))) ∧ Hid (Below Y.heap.size Y w')) (fun _ I _ => m - (intOf I).toNat)
    case atStart => exact ⟨0, fz, by omega, rfl, rfl, hide (by simp), hide (Below.refl _ _)⟩
    case round =>
     obtain ⟨j, f, hj, rfl, rfl, HF, HB2⟩ := hrel
     have HBZ := hide (below_next HBQ.out HB2.out)
     have HWZ := hide (below_next hB HBZ.out)
     have HOZ := hide (below_next HYW.out HB2.out)
     have r0 := keep_cell HB2.out q0
     have r1 := keep_cell HB2.out q1
     have r2 := keep_cell HB2.out q2
     have r3 := keep_cell HB2.out q3
     have j1 : (0 : Int) ≤ j := by omega
     by_cases hlt2 : j < m
     ·
      cases f with
      | false =>
       have HG3 := hide (show decideFrom ⟨kar, kn, b0, b1, b2, b3⟩ v ⟨ak, ae⟩ rs = decideFrom ⟨kar, kn, b0, b1, b2, b3⟩ v ⟨ak, ae⟩ (rs.drop (i + 1)) by rw [HG2.out, if_neg (by rw [and_take_false HF.out.symm]; decide)])
       go_wp2
       go_round
       case rel => exact ⟨i + 1, by omega, by go_num, HG3, HBZ⟩
       case measure => simp [intOf]; omega
      | true =>
       obtain ⟨c, hcs, hcat⟩ := HLN.out j hlt2
       obtain ⟨b', off', hca, hbw', HAA⟩ := HCN.out (by omega)
       have hA := (HAA.out j c hcs).on fun t => (bcell HOZ.out).1 b' t hbw'
       have HQ := hide (all_take_snoc' (f := leadB v) hcat)
       have hok := hA.ok
       have hsh := HSH.out c (List.mem_of_getElem? hcs)
       obtain ⟨a, haa, ha3⟩ := shape_arg hsh
       obtain ⟨y, hyy⟩ : ∃ y, y = v.at a := ⟨_, rfl⟩
       have hyo : VlOk y := by rw [hyy]; exact hv.at a
       have hya := vsC_at v a ha3
       rw [← HVC.out, ← hyy] at hya
       have t0 := keep_cell HBZ.out ((HU.out (a * 3)).trans hya.1)
       have t1 := keep_cell HBZ.out ((HU.out (a * 3 + 1)).trans hya.2.1)
       have t2 := keep_cell HBZ.out ((HU.out (a * 3 + 2)).trans hya.2.2)
       have lw : w.heap.size + 2 < wr.heap.size := block_lt_of_cell t0
       have HMT := fun (hg : c.glob.size ≤ 24) w => Gl.rmatch_any c.glob y.path (by omega) hyo.path w
       have HH := fun w => hasNet_any c.net.ip hok.net.ip c.net.bits c.net.lo c.net.hi hok.net.bits hok.net.lo hok.net.hi y.ip hyo.ip y.port w
       have hlb : leadB v c = if c.op = 8 then Gl.matchR c.glob y.path else if c.op = 9 then netHas c.net y else true := by unfold leadB; rw [haa, Int.toNat_natCast, hyy]
       rw [hlb] at HQ
       have hgl : c.op = 8 → c.glob.size ≤ 24 := fun h8 => by
        cases hsh with
        | num a k v ha h1 h6 hv => simp only at h8; omega
        | mask a v m ha hv hm => simp only at h8; omega
        | like a g ha hg => exact (glob_print hg).2
        | net a ip b lo hi ha hip hf => simp only at h8; omega
       obtain ⟨p0, p1, p2, p3, p4, p5, p6, p7, p8, _⟩ := hA
       clear hsh hya hyy hyo hok hcs hcat hlb
       subst hca
       obtain ⟨yp, yi, yo⟩ := y
       obtain ⟨arg, op, vv, mm, gl, ⟨ip, bb, lo, hh⟩⟩ := c
       unfold netV at HH
       simp only at p0 p1 p2 p3 p4 p5 p6 p7 p8 HH HMT haa hgl HQ t0 t1 t2
       unfold netHas at HQ
       simp only at HQ
       subst haa
       have a1 : (0 : Int) ≤ a := by omega
       have a2 : (a : Int) < 4 := by omega
       have a3 : (a : Int) % 4 = a := by omega
       have a4 : Int.tmod (a : Int) 4 = a := by rw [Int.tmod_eq_emod_of_nonneg a1]; exact a3
       by_cases h8 : op = 8
       ·
        subst h8
        replace HMT := HMT (hgl rfl)
        rw [if_pos rfl] at HQ
        obtain ⟨mr, hmr⟩ : ∃ m, m = Gl.matchR gl yp := ⟨_, rfl⟩
        rw [← hmr] at HQ HMT
        clear hmr hgl HH
        obtain ⟨W2, hW2, hW2b, hW2x, hW2y⟩ := two_box wr #[.int .i64 a, .int .i64 8, .int .u64 vv, .int .u64 mm, .string gl, .int .u32 ip, .int .i64 bb, .int .i64 lo, .int .i64 hh] #[.string yp, .int .u32 yi, .int .i64 yo] 47 66
        have u1 := hW2x 1
        simp only [List.getElem?_toArray, List.getElem?_cons_zero, List.getElem?_cons_succ] at u1
        clear hW2x hW2y
        go_wp2_with fail
        rw [← hW2]
        clear hW2
        refine (HMT _).mono ?_
        rintro e w1 ⟨rfl, hb1⟩
        replace u1 := keep_cell hb1 u1
        have HB3 := hide (below_next HB2.out (below_next hW2b hb1))
        clear hb1 hW2b HMT p0 p1 p2 p3 p4 p5 p6 p7 p8 t0 t1 t2
        go_wp2
        go_round
        case rel => exact ⟨j + 1, mr, by omega, rfl, by go_num, hide (by rw [HQ.out, ← Bool.and_assoc, ← HF.out]; rfl), HB3⟩
        case measure => simp [intOf]; omega
       ·
        rw [if_neg h8] at HQ
        by_cases h9 : op = 9
        ·
         subst h9
         rw [if_pos rfl] at HQ
         obtain ⟨mr, hmr⟩ : ∃ m, m = hasOf ip bb lo hh yi yo := ⟨_, rfl⟩
         rw [← hmr] at HQ HH
         clear hmr hgl HMT h8
         go_wp2_with (go_at_call 98; refine (HH _).mono ?_; rintro e w1 ⟨rfl, hb1⟩)
         go_round
         case rel => exact ⟨j + 1, mr, by omega, rfl, by go_num, hide (by rw [HQ.out, ← Bool.and_assoc, ← HF.out]; rfl), hide (below_next HB2.out (below_next (below_next (box_below _ _) (box_below _ _)) hb1))⟩
         case measure => simp [intOf]; omega
        ·
         rw [if_neg h9] at HQ
         clear HMT HH hgl
         go_wp2
         go_round
         case rel => exact ⟨j + 1, true, by omega, rfl, by go_num, hide (by rw [HQ.out, ← Bool.and_assoc, ← HF.out]; rfl), hide (below_next HB2.out (below_next (box_below _ _) (box_below _ _)))⟩
         case measure => simp [intOf]; omega
     ·
      obtain rfl : j = m := by omega
      rw [List.take_of_length_le (by rw [HM.out]; exact Nat.le_refl _)] at HF
      rw [← HF.out] at HG2
      cases f with
      | false =>
       rw [if_neg (by decide)] at HG2
       go_wp2
       go_round
       case rel => exact ⟨i + 1, by omega, by go_num, HG2, HBZ⟩
       case measure => simp [intOf]; omega
      | true =>
       rw [if_pos rfl] at HG2
       have hr2 : wr.heap[w.heap.size + 3]? = some (.cells #[.int .i64 0, .int .i64 0] 24 (0, 0)) := (HBZ.out.block _ hsw).trans hz
       go_wp2_with (refine wpList_store_row rfl 24 _ _ rfl (w.heap.size + 3) #[.int .i64 rk, .int .i64 re] rfl rfl 24 _ hr2 size_action rfl (one2 _ _) ?_)
       refine bodyPost_ret (v := .agg #[.int .i64 rk, .int .i64 re]) (results_cell_row rfl _ _ (w.heap.size + 3) 24 #[.int .i64 rk, .int .i64 re] (0, 0) _ rfl (setRow_heap _ _ _ _ _ _ hr2) Tryz.underlying24 rfl size_action) rfl ⟨?_, below_setRow HWZ.out (by omega) _⟩
       rw [HJ.out, HG2.out]
       rfl
   ·
    obtain rfl : i = n := by omega
    have HG2 := hide (show decideFrom ⟨kar, kn, b0, b1, b2, b3⟩ v ⟨ak, ae⟩ rs = ⟨ak, ae⟩ by
     rw [HG.out, List.drop_eq_nil_of_le (by rw [HN.out]; exact Nat.le_refl _), decideFrom])
    have g1 := keep_cell HB.out x1
    have g2 := keep_cell HB.out x2
    have hr2 : wr.heap[w.heap.size + 3]? = some (.cells #[.int .i64 0, .int .i64 0] 24 (0, 0)) := (HB.out.block _ hsw).trans hz
    go_wp2_with (refine wpList_store_row rfl 24 _ _ rfl (w.heap.size + 3) #[.int .i64 ak, .int .i64 ae] rfl rfl 24 _ hr2 size_action rfl (one2 _ _) ?_)
    refine bodyPost_ret (v := .agg #[.int .i64 ak, .int .i64 ae]) (results_cell_row rfl _ _ (w.heap.size + 3) 24 #[.int .i64 ak, .int .i64 ae] (0, 0) _ rfl (setRow_heap _ _ _ _ _ _ hr2) Tryz.underlying24 rfl size_action) rfl ⟨?_, below_setRow HW.out (by omega) _⟩
    rw [HJ.out, HG2.out]
    rfl
 ·
  have HJ := hide (show decideR ⟨rs, ⟨ak, ae⟩⟩ ⟨kar, kn, b0, b1, b2, b3⟩ v = ⟨3, 0⟩ from if_neg ha)
  have ha' : ¬ (kar : Int) = 3221225534 := by omega
  clear ha
  go_enter Tryz.func69, Tryz.ntmps69
  have hzz := hz
  rw [hV] at hzz
  go_wp2_with (refine wpList_store_row rfl 24 _ _ rfl (w.heap.size + 3) #[.int .i64 3, .int .i64 0] rfl rfl 24 _ hzz size_action rfl (one2 _ _) ?_)
  rw [hV] at hB
  refine bodyPost_ret (v := .agg #[.int .i64 3, .int .i64 0]) (results_cell_row rfl _ _ (w.heap.size + 3) 24 #[.int .i64 3, .int .i64 0] (0, 0) _ rfl (setRow_heap _ _ _ _ _ _ hzz) Tryz.underlying24 rfl size_action) rfl ⟨?_, below_setRow hB (by omega) _⟩
  rw [HJ.out]
  rfl
end Go.Proofs.YtklibmijiecbfaaGreat
