/- The document's Decide. -/
import Derived.Test.YtkogafponpjdnaaGreatDoorK10
import Derived.Test.YtkogafponpjdnaaGreatDoorK7
import Derived.Test.YtkogafponpjdnaaGreatDoorK11
import Derived.Test.YtkogafponpjdnaaGreatDoorK9
import Derived.Test.YtkogafponpjdnaaGreatDoorK4
namespace Go.Proofs.YtkogafponpjdnaaGreatDoor
open Go.RowKit Go.Sort

theorem and_take_false {f0 : Bool} {α : Type} {f : α → Bool} {l : List α} {i : Nat} (h : (f0 && (l.take i).all f) = false) : (f0 && l.all f) = false := by
  cases f0 with
  | false => rfl
  | true =>
    rw [Bool.true_and] at h ⊢
    exact all_take_false h

set_option maxHeartbeats 4000000 in
set_option maxRecDepth 100000 in
theorem rdecide_any (p : POL) (hok : PolOk p) (oa : Option Addr) (cap : Nat) (k : KL) (hk : KlOk k) (v : VS) (hv : VsOk v) (w : World) (hp : IsPol oa cap p w) :
    Calls Tryz.prog 18 #[polV p oa cap, klV k, vsV v] w fun e w' => e = .returned (actV (decideR p k v)) ∧ Below w.heap.size w w' := by
  obtain ⟨n, hn⟩ : ∃ n, n = p.rules.length := ⟨_, rfl⟩
  obtain ⟨vc, hvc⟩ : ∃ c, c = vsC v := ⟨_, rfl⟩
  have hvs : vc.size = 12 := by rw [hvc]; rfl
  obtain ⟨V, hV, hB, hVs, hx, hy, hu, hz⟩ := four_box w #[.slice oa p.rules.length cap, .int .i64 p.els.kind, .int .i64 p.els.errno] (klC k) vc #[.int .i64 0, .int .i64 0] 26 31 35 24
  have HC := hide (pol_parts hp n hn)
  have HRU := hide hok.rules
  have h12 : n ≤ 12 := by have := hok.few; omega
  have HFT := fun r hr oa cap X hc => rfits_any r hr oa cap k hk X hc
  have HU := hide hu
  clear hp hok hk hu
  unfold klC at hV hy
  unfold vsV
  rw [← hvc]
  have HVC := hide hvc
  clear hvc
  obtain ⟨rs, ⟨ak, ae⟩⟩ := p
  have HL := hide (show ∀ i, i < n → ∃ c, rs[i]? = some c ∧ rs.drop i = c :: rs.drop (i + 1) from fun i h => drop_next (by simp only at hn; omega))
  unfold polV klV klC at *
  simp only at *
  rw [← hn] at hV hx ⊢
  have HN := hide hn
  clear hn
  obtain ⟨kar, kn, b0, b1, b2, b3⟩ := k
  simp only at *
  have x0 := hx 0
  have x1 := hx 1
  have x2 := hx 2
  have y0 := hy 0
  have y1 := hy 1
  have y2 := hy 2
  have y3 := hy 3
  have y4 := hy 4
  have y5 := hy 5
  simp only [List.getElem?_toArray, List.getElem?_cons_zero, List.getElem?_cons_succ] at x0 x1 x2 y0 y1 y2 y3 y4 y5
  clear hx hy
  by_cases ha : kar = 3221225534
  · have HJ := hide (show decideR ⟨rs, ⟨ak, ae⟩⟩ ⟨kar, kn, b0, b1, b2, b3⟩ v = decideFrom ⟨kar, kn, b0, b1, b2, b3⟩ v ⟨ak, ae⟩ rs from if_pos ha)
    have ha' : (kar : Int) = 3221225534 := by omega
    rw [ha'] at hV y0 ⊢
    have HKA := hide ha'
    clear ha ha'
    go_enter Tryz.func18, Tryz.ntmps18
    go_wp2
    rw [← hV]
    clear hV
    go_loopw [7] (fun I w' => ∃ i : Nat, i ≤ n ∧ I = .int .i64 i ∧ Hid (decideFrom ⟨kar, kn, b0, b1, b2, b3⟩ v ⟨ak, ae⟩ rs = decideFrom ⟨kar, kn, b0, b1, b2, b3⟩ v ⟨ak, ae⟩ (rs.drop i)) ∧ Hid (Below V.heap.size V w')) (fun I _ => n - (intOf I).toNat)
    case atStart => exact ⟨0, by omega, rfl, hide rfl, hide (Below.refl _ _)⟩
    case round =>
      obtain ⟨i, hi, rfl, HG, HB⟩ := hrel
      have HW := hide (below_next hB HB.out)
      have hsw : w.heap.size + 3 < V.heap.size := by omega
      have g0 := keep_cell HB.out x0
      by_cases hlt : i < n
      · obtain ⟨c, hcs, hdr⟩ := HL.out i hlt
        obtain ⟨b, off, rfl, hbw, HA⟩ := HC.out (by omega)
        obtain ⟨ca, cc, hR0⟩ := HA.out i c hcs
        have hR := hR0.on hbw HW.out
        clear hR0
        have hro := HRU.out c (List.mem_of_getElem? hcs)
        have HF1 := HFT c hro ca cc
        have HIC := hide hR.conds
        have HSH := hide hro.conds
        have HG2 := hide (show decideFrom ⟨kar, kn, b0, b1, b2, b3⟩ v ⟨ak, ae⟩ rs = if fitsB c ⟨kar, kn, b0, b1, b2, b3⟩ && leadsB c v then c.act else decideFrom ⟨kar, kn, b0, b1, b2, b3⟩ v ⟨ak, ae⟩ (rs.drop (i + 1)) by rw [HG.out, hdr, decideFrom])
        have hm4 := hro.few
        have hcm := hR.cap
        have hcl := hR.le
        obtain ⟨fz, hfz⟩ : ∃ z, z = fitsB c ⟨kar, kn, b0, b1, b2, b3⟩ := ⟨_, rfl⟩
        obtain ⟨dz, hdz⟩ : ∃ z, z = deepB c := ⟨_, rfl⟩
        rw [← hfz, ← hdz] at HF1
        rw [← hfz] at HG2
        obtain ⟨p0, p1, p2, p3, _, _, _, _⟩ := hR
        clear hfz hdz hro hcs hdr HG
        obtain ⟨nr, cs, ⟨rk, re⟩⟩ := c
        unfold ruleV at HF1
        unfold leadsB at HG2
        simp only at p0 p1 p2 p3 HF1 HG2 HIC HSH hm4
        simp only [HKA.out] at HF1
        obtain ⟨m, hm⟩ : ∃ m, m = cs.length := ⟨_, rfl⟩
        have HCN := hide (conds_parts HIC.out m hm)
        have HLN := hide (show ∀ i, i < m → ∃ c, cs[i]? = some c ∧ cs.take (i + 1) = cs.take i ++ [c] from fun i h => take_next (by omega))
        rw [← hm] at p1 HF1 hm4
        have HM := hide hm
        clear hm hcm hcl
        have z0 := keep_cell HB.out y0
        have z1 := keep_cell HB.out y1
        have z2 := keep_cell HB.out y2
        have z3 := keep_cell HB.out y3
        have z4 := keep_cell HB.out y4
        have z5 := keep_cell HB.out y5
        have G0 := cell_regrown g0
        have P0 := cell_regrown p0
        have P1 := cell_regrown p1
        have P2 := cell_regrown p2
        have P3 := cell_regrown p3
        have Z0 := cell_regrown z0
        have Z1 := cell_regrown z1
        have Z2 := cell_regrown z2
        have Z3 := cell_regrown z3
        have Z4 := cell_regrown z4
        have Z5 := cell_regrown z5
        have cF : ∀ d os, Calls Tryz.prog 32 #[.agg #[.int .i64 nr, .slice ca m cc, .int .i64 rk, .int .i64 re], .agg #[.int .u32 3221225534, .int .u32 kn, .int .u64 b0, .int .u64 b1, .int .u64 b2, .int .u64 b3]] (grow (redrawn wr d) os) fun e w'' => e = .returned (.tuple #[.bool fz, .bool dz]) ∧ ∃ p : Regrown, w'' = grow (redrawn wr p.d) p.os := fun d os => Calls.regrown_of (HF1 _ (HIC.out.on (below_regrown wr d os)))
        have i1 : (0 : Int) ≤ i := by omega
        go_wp2_with fail
        clear z0 z1 z2 z3 z4 z5
        refine wp_region_quiet_below (by kernel_rfl) (by kernel_rfl) ?_
        repeat (go_big_quiet_step ((go_at_call 32; exact cF _ _)))
        refine wpQuiet_nil ?_
        intro _ hw'
        obtain ⟨⟨dq, osq⟩, hw''⟩ := hw'
        subst hw''
        have HYW := hide (below_regrown wr dq osq)
        have HBQ := hide (below_next HB.out (below_regrown wr dq osq))
        have q1 := P1 dq osq
        have q2 := P2 dq osq
        have q3 := P3 dq osq
        have q0 := G0 dq osq
        clear G0 P0 P1 P2 P3 Z0 Z1 Z2 Z3 Z4 Z5 cF p0 p1 p2 p3 g0
        obtain ⟨Y, hY⟩ : ∃ Y, Y = grow (redrawn wr dq) osq := ⟨_, rfl⟩
        rw [← hY] at HBQ HYW q1 q2 q3 q0 ⊢
        clear hY HF1
        go_wp2
        go_loopw [8, 10] (fun F I w' => ∃ (j : Nat) (f : Bool), j ≤ m ∧ F = .bool f ∧ I = .int .i64 j ∧ Hid (f = (fz && (cs.take j).all (leadB v))) ∧ Hid (Below Y.heap.size Y w')) (fun _ I _ => m - (intOf I).toNat)
        case atStart => exact ⟨0, fz, by omega, rfl, rfl, hide (by simp), hide (Below.refl _ _)⟩
        case round =>
          obtain ⟨j, f, hj, rfl, rfl, HF, HB2⟩ := hrel
          have HBZ := hide (below_next HBQ.out HB2.out)
          have HWZ := hide (below_next hB HBZ.out)
          have HOZ := hide (below_next HYW.out HB2.out)
          have r0 := keep_cell HB2.out q0
          have r1 := keep_cell HB2.out q1
          have r2 := keep_cell HB2.out q2
          have r3 := keep_cell HB2.out q3
          have j1 : (0 : Int) ≤ j := by omega
          by_cases hlt2 : j < m
          · cases f with
            | false =>
              have HG3 := hide (show decideFrom ⟨kar, kn, b0, b1, b2, b3⟩ v ⟨ak, ae⟩ rs = decideFrom ⟨kar, kn, b0, b1, b2, b3⟩ v ⟨ak, ae⟩ (rs.drop (i + 1)) by rw [HG2.out, if_neg (by rw [and_take_false HF.out.symm]; decide)])
              go_wp2
              go_round
              case rel => exact ⟨i + 1, by omega, by go_num, HG3, HBZ⟩
              case measure => simp [intOf]; omega
            | true =>
              obtain ⟨c, hcs, hcat⟩ := HLN.out j hlt2
              obtain ⟨b', off', hca, hbw', HAA⟩ := HCN.out (by omega)
              have hA := (HAA.out j c hcs).on fun t => (bcell HOZ.out).1 b' t hbw'
              have HQ := hide (all_take_snoc' (f := leadB v) hcat)
              have hok := hA.ok
              have hsh := HSH.out c (List.mem_of_getElem? hcs)
              obtain ⟨a, haa, ha3⟩ := shape_arg hsh
              obtain ⟨y, hyy⟩ : ∃ y, y = v.at a := ⟨_, rfl⟩
              have hyo : VlOk y := by rw [hyy]; exact hv.at a
              have hya := vsC_at v a ha3
              rw [← HVC.out, ← hyy] at hya
              have t0 := keep_cell HBZ.out ((HU.out (a * 3)).trans hya.1)
              have t1 := keep_cell HBZ.out ((HU.out (a * 3 + 1)).trans hya.2.1)
              have t2 := keep_cell HBZ.out ((HU.out (a * 3 + 2)).trans hya.2.2)
              have lw : w.heap.size + 2 < wr.heap.size := block_lt_of_cell t0
              have HMT := fun (hg : c.glob.size ≤ 24) w => Gl.rmatch_any c.glob y.path (by omega) hyo.path w
              have HH := fun w => hasNet_any c.net.ip hok.net.ip c.net.bits c.net.lo c.net.hi hok.net.bits hok.net.lo hok.net.hi y.ip hyo.ip y.port w
              have hlb : leadB v c = if c.op = 8 then Gl.matchR c.glob y.path else if c.op = 9 then netHas c.net y else true := by unfold leadB; rw [haa, Int.toNat_natCast, hyy]
              rw [hlb] at HQ
              have hgl : c.op = 8 → c.glob.size ≤ 24 := fun h8 => by
                cases hsh with
                | num a k v ha h1 h6 hv => simp only at h8; omega
                | mask a v m ha hv hm => simp only at h8; omega
                | like a g ha hg => exact (glob_print hg).2
                | net a ip b lo hi ha hip hf => simp only at h8; omega
              obtain ⟨p0, p1, p2, p3, p4, p5, p6, p7, p8, _⟩ := hA
              clear hsh hya hyy hyo hok hcs hcat hlb
              subst hca
              obtain ⟨yp, yi, yo⟩ := y
              obtain ⟨arg, op, vv, mm, gl, ⟨ip, bb, lo, hh⟩⟩ := c
              unfold netV at HH
              simp only at p0 p1 p2 p3 p4 p5 p6 p7 p8 HH HMT haa hgl HQ t0 t1 t2
              unfold netHas at HQ
              simp only at HQ
              subst haa
              have a1 : (0 : Int) ≤ a := by omega
              have a2 : (a : Int) < 4 := by omega
              have a3 : (a : Int) % 4 = a := by omega
              have a4 : Int.tmod (a : Int) 4 = a := by rw [Int.tmod_eq_emod_of_nonneg a1]; exact a3
              by_cases h8 : op = 8
              · subst h8
                replace HMT := HMT (hgl rfl)
                rw [if_pos rfl] at HQ
                obtain ⟨mr, hmr⟩ : ∃ m, m = Gl.matchR gl yp := ⟨_, rfl⟩
                rw [← hmr] at HQ HMT
                clear hmr hgl HH
                obtain ⟨W2, hW2, hW2b, hW2x, hW2y⟩ := two_box wr #[.int .i64 a, .int .i64 8, .int .u64 vv, .int .u64 mm, .string gl, .int .u32 ip, .int .i64 bb, .int .i64 lo, .int .i64 hh] #[.string yp, .int .u32 yi, .int .i64 yo] 69 33
                have u1 := hW2x 1
                simp only [List.getElem?_toArray, List.getElem?_cons_zero, List.getElem?_cons_succ] at u1
                clear hW2x hW2y
                go_wp2_with fail
                rw [← hW2]
                clear hW2
                refine (HMT _).mono ?_
                rintro e w1 ⟨rfl, hb1⟩
                replace u1 := keep_cell hb1 u1
                have HB3 := hide (below_next HB2.out (below_next hW2b hb1))
                clear hb1 hW2b HMT p0 p1 p2 p3 p4 p5 p6 p7 p8 t0 t1 t2
                go_wp2
                go_round
                case rel => exact ⟨j + 1, mr, by omega, rfl, by go_num, hide (by rw [HQ.out, ← Bool.and_assoc, ← HF.out]; rfl), HB3⟩
                case measure => simp [intOf]; omega
              · rw [if_neg h8] at HQ
                by_cases h9 : op = 9
                · subst h9
                  rw [if_pos rfl] at HQ
                  obtain ⟨mr, hmr⟩ : ∃ m, m = hasOf ip bb lo hh yi yo := ⟨_, rfl⟩
                  rw [← hmr] at HQ HH
                  clear hmr hgl HMT h8
                  go_wp2_with (go_at_call 34; refine (HH _).mono ?_; rintro e w1 ⟨rfl, hb1⟩)
                  go_round
                  case rel => exact ⟨j + 1, mr, by omega, rfl, by go_num, hide (by rw [HQ.out, ← Bool.and_assoc, ← HF.out]; rfl), hide (below_next HB2.out (below_next (below_next (box_below _ _) (box_below _ _)) hb1))⟩
                  case measure => simp [intOf]; omega
                · rw [if_neg h9] at HQ
                  clear HMT HH hgl
                  go_wp2
                  go_round
                  case rel => exact ⟨j + 1, true, by omega, rfl, by go_num, hide (by rw [HQ.out, ← Bool.and_assoc, ← HF.out]; rfl), hide (below_next HB2.out (below_next (box_below _ _) (box_below _ _)))⟩
                  case measure => simp [intOf]; omega
          · obtain rfl : j = m := by omega
            rw [List.take_of_length_le (by rw [HM.out]; exact Nat.le_refl _)] at HF
            rw [← HF.out] at HG2
            cases f with
            | false =>
              rw [if_neg (by decide)] at HG2
              go_wp2
              go_round
              case rel => exact ⟨i + 1, by omega, by go_num, HG2, HBZ⟩
              case measure => simp [intOf]; omega
            | true =>
              rw [if_pos rfl] at HG2
              have hr2 : wr.heap[w.heap.size + 3]? = some (.cells #[.int .i64 0, .int .i64 0] 24 (0, 0)) := (HBZ.out.block _ hsw).trans hz
              go_wp2_with (refine wpList_store_row rfl 24 _ _ rfl (w.heap.size + 3) #[.int .i64 rk, .int .i64 re] rfl rfl 24 _ hr2 size_action rfl (one2 _ _) ?_)
              refine bodyPost_ret (v := .agg #[.int .i64 rk, .int .i64 re]) (results_cell_row rfl _ _ (w.heap.size + 3) 24 #[.int .i64 rk, .int .i64 re] (0, 0) _ rfl (setRow_heap _ _ _ _ _ _ hr2) Tryz.underlying24 rfl size_action) rfl ⟨?_, below_setRow HWZ.out (by omega) _⟩
              rw [HJ.out, HG2.out]
              rfl
      · obtain rfl : i = n := by omega
        have HG2 := hide (show decideFrom ⟨kar, kn, b0, b1, b2, b3⟩ v ⟨ak, ae⟩ rs = ⟨ak, ae⟩ by
          rw [HG.out, List.drop_eq_nil_of_le (by rw [HN.out]; exact Nat.le_refl _), decideFrom])
        have g1 := keep_cell HB.out x1
        have g2 := keep_cell HB.out x2
        have hr2 : wr.heap[w.heap.size + 3]? = some (.cells #[.int .i64 0, .int .i64 0] 24 (0, 0)) := (HB.out.block _ hsw).trans hz
        go_wp2_with (refine wpList_store_row rfl 24 _ _ rfl (w.heap.size + 3) #[.int .i64 ak, .int .i64 ae] rfl rfl 24 _ hr2 size_action rfl (one2 _ _) ?_)
        refine bodyPost_ret (v := .agg #[.int .i64 ak, .int .i64 ae]) (results_cell_row rfl _ _ (w.heap.size + 3) 24 #[.int .i64 ak, .int .i64 ae] (0, 0) _ rfl (setRow_heap _ _ _ _ _ _ hr2) Tryz.underlying24 rfl size_action) rfl ⟨?_, below_setRow HW.out (by omega) _⟩
        rw [HJ.out, HG2.out]
        rfl
  · have HJ := hide (show decideR ⟨rs, ⟨ak, ae⟩⟩ ⟨kar, kn, b0, b1, b2, b3⟩ v = ⟨3, 0⟩ from if_neg ha)
    have ha' : ¬ (kar : Int) = 3221225534 := by omega
    clear ha
    go_enter Tryz.func18, Tryz.ntmps18
    have hzz := hz
    rw [hV] at hzz
    go_wp2_with (refine wpList_store_row rfl 24 _ _ rfl (w.heap.size + 3) #[.int .i64 3, .int .i64 0] rfl rfl 24 _ hzz size_action rfl (one2 _ _) ?_)
    rw [hV] at hB
    refine bodyPost_ret (v := .agg #[.int .i64 3, .int .i64 0]) (results_cell_row rfl _ _ (w.heap.size + 3) 24 #[.int .i64 3, .int .i64 0] (0, 0) _ rfl (setRow_heap _ _ _ _ _ _ hzz) Tryz.underlying24 rfl size_action) rfl ⟨?_, below_setRow hB (by omega) _⟩
    rw [HJ.out]
    rfl
end Go.Proofs.YtkogafponpjdnaaGreatDoor

/- lets: a closed fact. -/
namespace Go.Proofs.YtkogafponpjdnaaGreatDoor
open Go.RowKit Go.Sort

def letsP : POL := ⟨[⟨0, [⟨0, 3, 5, 0, ByteArray.empty, noNet⟩], ⟨1, 0⟩⟩], ⟨3, 0⟩⟩
def letsT : W8 := [101, 108, 115, 101, 32, 107, 105, 108, 108, 10, 97, 108, 108, 111, 119, 32, 114, 101, 97, 100, 32, 105, 102, 32, 48, 32, 60, 32, 53, 10]
theorem lets_ok : PlOk letsP := ⟨fun r hr => by
    rw [show r = _ from List.mem_singleton.1 hr]
    exact ⟨i64_nat (k := 0) (by omega), fun c hc => by
      rw [show c = _ from List.mem_singleton.1 hc]
      exact ⟨i64_nat (k := 0) (by omega), i64_nat (k := 3) (by omega), by simp, by simp, noNet_ok⟩, ⟨i64_nat (k := 1) (by omega), i64_nat (k := 0) (by omega)⟩⟩, ⟨i64_nat (k := 3) (by omega), i64_nat (k := 0) (by omega)⟩⟩
theorem dec_0 : Lib.decDigits 0 = [48] := by rw [Lib.decDigits]; rfl
theorem dec_5 : Lib.decDigits 5 = [53] := by rw [Lib.decDigits]; rfl
theorem lets_text : textP letsP = letsT := by
  simp [textP, letsP, letsT, actW, ruleW, condsW, condW, signOf, signW, nameOf, nameW, wElse, wKill, wAllow, wIf, joinC, dec_0, dec_5]
theorem lets_fault : polF letsP = 0 := by decide
theorem lets_parse : parseP letsT = (letsP, 0) := by
  have h := docP_text (pol_ok lets_fault lets_ok) lets_fault
  rw [lets_text] at h
  unfold parseP
  rw [if_neg (by decide), h]
def letsK (n : Nat) : KL := ⟨3221225534, 0, n, 0, 0, 0⟩
theorem lets_judge (n : Nat) : judgeV letsP (letsK n) = .tuple #[.agg #[.int .i64 (if n < 5 then 1 else 3), .int .i64 0, .int .i64 0], .nilIface] := by
  unfold judgeV
  rw [if_pos lets_fault, lets_fault]
  by_cases h : n < 5 <;> simp [judgeR, letsK, judgeFrom, letsP, fitsB, regB, numB, kindOp, holdsN, regN, deepB, verV, verC, errV, h]
theorem letsK_ok (n : Nat) (h : n ≤ 5) : KlOk (letsK n) := ⟨by simp [letsK], by simp [letsK], by simp only [letsK]; omega, by simp [letsK], by simp [letsK], by simp [letsK]⟩

set_option maxHeartbeats 2000000 in
set_option maxRecDepth 100000 in
theorem lets_any (w : World) (hE : EV w) : Calls Tryz.prog 5 #[] w fun e w' => e = .returned (.bool true) ∧ Below w.heap.size w w' := by
  have HPR := pparse_any letsT (by simp [letsT]) w hE
  rw [lets_parse] at HPR
  have HJ := fun n (hn : n ≤ 5) oa cap X h => judge_any letsP oa cap (letsK n) (letsK_ok n hn) X h
  simp only [lets_judge] at HJ
  have HJ4 := fun oa cap X h => HJ 4 (by omega) oa cap X h
  have HJ5 := fun oa cap X h => HJ 5 (by omega) oa cap X h
  rw [if_pos (by omega)] at HJ4
  rw [if_neg (by omega)] at HJ5
  clear HJ
  unfold polV klV klC letsK at HJ4 HJ5
  unfold polV at HPR
  rw [errV_zero] at HPR
  unfold bs letsT at HPR
  have hl : letsP.rules.length = 1 := rfl
  have hk : letsP.els.kind = 3 := rfl
  have he : letsP.els.errno = 0 := rfl
  rw [hl, hk, he] at HPR
  simp only [hl, hk, he] at HJ4 HJ5
  clear hl hk he
  go_enter Tryz.func5, Tryz.ntmps5
  go_wp2_with fail
  refine HPR.mono ?_
  rintro e W1 ⟨⟨oa, cap, rfl, hI⟩, hb1⟩
  have HI := hide hI
  have HB := hide hb1
  clear HPR hI hb1 hE
  obtain ⟨W2, hW2, hW2b, hW2s, hW2c⟩ := one_box W1 #[.slice oa 1 cap, .int .i64 3, .int .i64 0] 26
  have x0 := hW2c 0
  have x1 := hW2c 1
  have x2 := hW2c 2
  simp only [List.getElem?_toArray, List.getElem?_cons_zero, List.getElem?_cons_succ] at x0 x1 x2
  replace HB := hide (below_next HB.out hW2b)
  replace HI := hide (HI.out.on hW2b)
  clear hW2c hW2b hW2s
  go_wp2_with fail
  rw [← hW2]
  clear hW2
  refine (HJ4 oa cap _ HI.out).mono ?_
  rintro e W3 ⟨rfl, hb1⟩
  replace x0 := keep_cell hb1 x0
  replace x1 := keep_cell hb1 x1
  replace x2 := keep_cell hb1 x2
  replace HB := hide (below_next HB.out hb1)
  replace HI := hide (HI.out.on hb1)
  clear hb1 HJ4
  obtain ⟨W4, hW4, hW4b, hW4s, hW4c⟩ := one_box W3 #[.int .i64 1, .int .i64 0, .int .i64 0] 46
  have y0 := hW4c 0
  simp only [List.getElem?_toArray, List.getElem?_cons_zero] at y0
  have l1 : W1.heap.size < W3.heap.size := block_lt_of_cell x0
  replace HB := hide (below_next HB.out hW4b)
  replace HI := hide (HI.out.on hW4b)
  clear hW4c hW4b hW4s
  go_wp2_with fail
  rw [← hW4]
  clear hW4
  refine (HJ5 oa cap _ HI.out).mono ?_
  rintro e W5 ⟨rfl, hb1⟩
  replace y0 := keep_cell hb1 y0
  have hly : W3.heap.size < W5.heap.size := block_lt_of_cell y0
  replace HB := hide (below_next HB.out hb1)
  clear hb1 HJ5 HI x0 x1 x2
  go_wp2_with (go_at_call 13; refine (same_nil 0 _).mono ?_; rintro e w' ⟨rfl, rfl⟩)
  go_ret
  exact ⟨rfl, below_next HB.out (box_below _ _)⟩
end Go.Proofs.YtkogafponpjdnaaGreatDoor

/- The document's PolicyFault. -/
namespace Go.Proofs.YtkogafponpjdnaaGreatDoor
open Go.RowKit Go.Sort

set_option maxHeartbeats 1000000 in
theorem dactF_any (a : ACT) (w : World) : Calls Tryz.prog 21 #[actV a] w fun e w' => e = .returned (.int .i64 (actF a)) ∧ Below w.heap.size w w' := by
  obtain ⟨k, e⟩ := a
  have HF := hide (show actF ⟨k, e⟩ = if k ≠ 1 ∧ k ≠ 2 ∧ k ≠ 3 then 3 else if k ≠ 2 ∧ e ≠ 0 then 3 else if k = 2 ∧ (e < 1 ∨ 255 < e) then 1 else 0 from rfl)
  obtain ⟨f, hf⟩ : ∃ f, f = actF ⟨k, e⟩ := ⟨_, rfl⟩
  rw [← hf] at HF ⊢
  clear hf
  unfold actV
  simp only
  by_cases h2 : k = 2
  · subst h2
    have HF2 := hide (show f = if e < 1 ∨ 255 < e then 1 else 0 by rw [HF.out, if_neg (by omega), if_neg (by omega)]; simp)
    clear HF
    by_cases h1 : e < 1
    · have HF3 := hide (show (f : Int) = 1 by rw [HF2.out, if_pos (by omega)]; rfl)
      clear HF2
      go_enter Tryz.func21, Tryz.ntmps21
      go_wp2
      go_ret
      exact ⟨by rw [HF3.out]; rfl, box_below _ _⟩
    · by_cases h5 : 255 < e
      · have HF3 := hide (show (f : Int) = 1 by rw [HF2.out, if_pos (by omega)]; rfl)
        clear HF2
        go_enter Tryz.func21, Tryz.ntmps21
        go_wp2
        go_ret
        exact ⟨by rw [HF3.out]; rfl, box_below _ _⟩
      · have HF3 := hide (show (f : Int) = 0 by rw [HF2.out, if_neg (by omega)]; rfl)
        clear HF2
        go_enter Tryz.func21, Tryz.ntmps21
        go_wp2
        go_ret
        exact ⟨by rw [HF3.out]; rfl, box_below _ _⟩
  · by_cases h0 : e = 0
    · subst h0
      by_cases h1 : k = 1
      · subst h1
        have HF3 := hide (show (f : Int) = 0 by rw [HF.out]; rfl)
        clear HF
        go_enter Tryz.func21, Tryz.ntmps21
        go_wp2
        go_ret
        exact ⟨by rw [HF3.out]; rfl, box_below _ _⟩
      · by_cases h3 : k = 3
        · subst h3
          have HF3 := hide (show (f : Int) = 0 by rw [HF.out]; rfl)
          clear HF
          go_enter Tryz.func21, Tryz.ntmps21
          go_wp2
          go_ret
          exact ⟨by rw [HF3.out]; rfl, box_below _ _⟩
        · have HF3 := hide (show (f : Int) = 3 by rw [HF.out, if_pos ⟨h1, h2, h3⟩]; rfl)
          clear HF
          go_enter Tryz.func21, Tryz.ntmps21
          go_wp2
          go_ret
          exact ⟨by rw [HF3.out]; rfl, box_below _ _⟩
    · have HF3 := hide (show (f : Int) = 3 by
        rw [HF.out]
        by_cases h : k ≠ 1 ∧ k ≠ 2 ∧ k ≠ 3
        · rw [if_pos h]; rfl
        · rw [if_neg h, if_pos ⟨h2, h0⟩]; rfl)
      clear HF
      go_enter Tryz.func21, Tryz.ntmps21
      go_wp2
      all_goals
        go_ret
        exact ⟨by rw [HF3.out]; rfl, box_below _ _⟩

theorem dglobF_any (p : ByteArray) (w : World) : Calls Tryz.prog 40 #[.string p] w fun e w' => e = .returned (.int .i64 (globF p)) ∧ Below w.heap.size w w' := by
  by_cases h : 24 < p.size
  · have HE := hide (show (globF p : Int) = 2 by
      unfold globF Gl.parseR
      rw [if_pos h]
      rfl)
    go_enter Tryz.func40, Tryz.ntmps40
    go_wp2
    go_ret
    exact ⟨by rw [HE.out]; rfl, Below.refl _ _⟩
  · refine (Gl.globFault_any p (by omega) w).mono ?_
    rintro e w' ⟨rfl, hb⟩
    refine ⟨?_, hb⟩
    unfold globF Gl.faultR
    cases hp : Gl.parseR p with
    | inr ps => rfl
    | inl n => rfl

theorem dcondF_bound (nr : Int) (c : CD) (w : World) (h : c.arg < 0 ∨ 3 < c.arg ∨ c.op < 1 ∨ 9 < c.op) : Calls Tryz.prog 22 #[.int .i64 nr, condV c] w fun e w' => e = .returned (.int .i64 1) ∧ Below w.heap.size w w' := by
  obtain ⟨arg, op, v, m, g, ⟨ip, b, lo, hi⟩⟩ := c
  unfold condV
  simp only at h ⊢
  go_enter Tryz.func22, Tryz.ntmps22
  go_wp2
  all_goals first
    | omega
    | (go_ret
       exact ⟨rfl, box_below _ _⟩)

set_option maxHeartbeats 4000000 in
set_option maxRecDepth 100000 in
theorem dcondF_kind (nr a : Nat) (hnr : nr < 9) (ha : a ≤ 3) (op : Int) (v m : Nat) (g : ByteArray) (ip : Nat) (b lo hi : Int) (h1 : ¬ op < 1) (h9 : ¬ 9 < op) (w : World) (h : kindAt nr a ≠ kindOp op) :
    Calls Tryz.prog 22 #[.int .i64 nr, condV ⟨a, op, v, m, g, ⟨ip, b, lo, hi⟩⟩] w fun e w' => e = .returned (.int .i64 3) ∧ Below w.heap.size w w' := by
  have HK := fun X => dkind_any nr a hnr (by omega) X
  obtain ⟨ka, hka⟩ : ∃ k, k = kindAt nr a := ⟨_, rfl⟩
  rw [← hka] at HK h
  clear hka
  unfold condV
  simp only
  have i1 : ¬ (a : Int) < 0 := by omega
  have i2 : ¬ 3 < (a : Int) := by omega
  by_cases h8 : op = 8
  · subst h8
    have hne : ¬ (ka : Int) = 2 := by unfold kindOp at h; simp at h; omega
    have hnb : ((ka : Int) != 2) = true := by simpa using hne
    go_enter Tryz.func22, Tryz.ntmps22
    go_wp2_with (go_at_call 39; refine (HK _).mono ?_; rintro e X ⟨rfl, rfl⟩)
    go_ret
    exact ⟨rfl, below_next (box_below _ _) (box_below _ _)⟩
  by_cases h9 : op = 9
  · subst h9
    have hne : ¬ (ka : Int) = 3 := by unfold kindOp at h; simp at h; omega
    have hnb : ((ka : Int) != 3) = true := by simpa using hne
    go_enter Tryz.func22, Tryz.ntmps22
    go_wp2_with (go_at_call 39; refine (HK _).mono ?_; rintro e X ⟨rfl, rfl⟩)
    go_ret
    exact ⟨rfl, below_next (box_below _ _) (box_below _ _)⟩
  · have hne : ¬ (ka : Int) = 1 := by unfold kindOp at h; rw [if_neg h8, if_neg h9] at h; omega
    have hnb : ((ka : Int) != 1) = true := by simpa using hne
    go_enter Tryz.func22, Tryz.ntmps22
    go_wp2_with (go_at_call 39; refine (HK _).mono ?_; rintro e X ⟨rfl, rfl⟩)
    go_ret
    exact ⟨rfl, below_next (box_below _ _) (box_below _ _)⟩
end Go.Proofs.YtkogafponpjdnaaGreatDoor

/- The document's condFault where the kind is right, and PolicyFault. -/
namespace Go.Proofs.YtkogafponpjdnaaGreatDoor
open Go.RowKit Go.Sort

set_option maxHeartbeats 8000000 in
set_option maxRecDepth 100000 in
theorem dcondF_num (nr a : Nat) (hnr : nr < 9) (ha : a ≤ 3) (op : Int) (h1 : ¬ op < 1) (h6 : ¬ 6 < op) (v m : Nat) (g : ByteArray) (ip : Nat) (b lo hi : Int) (w : World) (hk : kindAt nr a = 1) (f : Nat) (hu3 : unusedP ⟨a, op, v, m, g, ⟨ip, b, lo, hi⟩⟩ → f = 3) (hu0 : ¬ unusedP ⟨a, op, v, m, g, ⟨ip, b, lo, hi⟩⟩ → f = 0) :
    Calls Tryz.prog 22 #[.int .i64 nr, condV ⟨a, op, v, m, g, ⟨ip, b, lo, hi⟩⟩] w fun e w' => e = .returned (.int .i64 f) ∧ Below w.heap.size w w' := by
  have HK := fun X => dkind_any nr a hnr (by omega) X
  rw [hk] at HK
  have HU3 := hide hu3
  have HU0 := hide hu0
  clear hk hu3 hu0 hnr
  unfold condV
  simp only
  have i1 : ¬ (a : Int) < 0 := by omega
  have i2 : ¬ 3 < (a : Int) := by omega
  have n7 : ¬ op = 7 := by omega
  have n8 : ¬ op = 8 := by omega
  have n9 : ¬ op = 9 := by omega
  have b7 : (op != 7) = true := by simpa using n7
  have b8 : (op != 8) = true := by simpa using n8
  have b9 : (op != 9) = true := by simpa using n9
  have m7 : ¬ 7 < op := by omega
  have m9 : ¬ 9 < op := by omega
  by_cases hm : m = 0
  · subst hm
    by_cases hv : v = 0
    · subst hv
      by_cases hg : g.size = 0
      · have pg : ¬ (0 : Int) < g.size := by omega
        by_cases hip : ip = 0
        · subst hip
          by_cases hb : b = 0
          · subst hb
            by_cases hlo : lo = 0
            · subst hlo
              by_cases hhi : hi = 0
              · subst hhi
                have HF := hide (show (f : Int) = 0 by rw [HU0.out (by unfold unusedP netZ; first | (simp only; omega) | (simp; omega) | simp_all)]; rfl)
                clear HU3 HU0
                go_enter Tryz.func22, Tryz.ntmps22
                go_wp2_with (first
                  | (go_at_call 39; refine (HK _).mono ?_; rintro e X ⟨rfl, rfl⟩))
                all_goals
                  go_ret
                  exact ⟨by rw [HF.out]; rfl, below_next (box_below _ _) (box_below _ _)⟩
              · have phi : ¬ (hi : Int) = 0 := by omega
                have HF := hide (show (f : Int) = 3 by rw [HU3.out (by unfold unusedP netZ; first | (simp only; omega) | (simp; omega) | simp_all)]; rfl)
                clear HU3 HU0
                go_enter Tryz.func22, Tryz.ntmps22
                go_wp2_with (first
                  | (go_at_call 39; refine (HK _).mono ?_; rintro e X ⟨rfl, rfl⟩))
                all_goals
                  go_ret
                  exact ⟨by rw [HF.out]; rfl, below_next (box_below _ _) (box_below _ _)⟩
            · have plo : ¬ (lo : Int) = 0 := by omega
              have HF := hide (show (f : Int) = 3 by rw [HU3.out (by unfold unusedP netZ; first | (simp only; omega) | (simp; omega) | simp_all)]; rfl)
              clear HU3 HU0
              go_enter Tryz.func22, Tryz.ntmps22
              go_wp2_with (first
                | (go_at_call 39; refine (HK _).mono ?_; rintro e X ⟨rfl, rfl⟩))
              all_goals
                go_ret
                exact ⟨by rw [HF.out]; rfl, below_next (box_below _ _) (box_below _ _)⟩
          · have pb : ¬ (b : Int) = 0 := by omega
            have HF := hide (show (f : Int) = 3 by rw [HU3.out (by unfold unusedP netZ; first | (simp only; omega) | (simp; omega) | simp_all)]; rfl)
            clear HU3 HU0
            go_enter Tryz.func22, Tryz.ntmps22
            go_wp2_with (first
              | (go_at_call 39; refine (HK _).mono ?_; rintro e X ⟨rfl, rfl⟩))
            all_goals
              go_ret
              exact ⟨by rw [HF.out]; rfl, below_next (box_below _ _) (box_below _ _)⟩
        · have pip : ¬ (ip : Int) = 0 := by omega
          have HF := hide (show (f : Int) = 3 by rw [HU3.out (by unfold unusedP netZ; first | (simp only; omega) | (simp; omega) | simp_all)]; rfl)
          clear HU3 HU0
          go_enter Tryz.func22, Tryz.ntmps22
          go_wp2_with (first
            | (go_at_call 39; refine (HK _).mono ?_; rintro e X ⟨rfl, rfl⟩))
          all_goals
            go_ret
            exact ⟨by rw [HF.out]; rfl, below_next (box_below _ _) (box_below _ _)⟩
      · have pg : (0 : Int) < g.size := by omega
        have HF := hide (show (f : Int) = 3 by rw [HU3.out (by unfold unusedP netZ; first | (simp only; omega) | (simp; omega) | simp_all)]; rfl)
        clear HU3 HU0
        go_enter Tryz.func22, Tryz.ntmps22
        go_wp2_with (first
          | (go_at_call 39; refine (HK _).mono ?_; rintro e X ⟨rfl, rfl⟩))
        all_goals
          go_ret
          exact ⟨by rw [HF.out]; rfl, below_next (box_below _ _) (box_below _ _)⟩
    · have pv : (0 : Int) < v := by omega
      by_cases hg : g.size = 0
      · have pg : ¬ (0 : Int) < g.size := by omega
        by_cases hip : ip = 0
        · subst hip
          by_cases hb : b = 0
          · subst hb
            by_cases hlo : lo = 0
            · subst hlo
              by_cases hhi : hi = 0
              · subst hhi
                have HF := hide (show (f : Int) = 0 by rw [HU0.out (by unfold unusedP netZ; first | (simp only; omega) | (simp; omega) | simp_all)]; rfl)
                clear HU3 HU0
                go_enter Tryz.func22, Tryz.ntmps22
                go_wp2_with (first
                  | (go_at_call 39; refine (HK _).mono ?_; rintro e X ⟨rfl, rfl⟩))
                all_goals
                  go_ret
                  exact ⟨by rw [HF.out]; rfl, below_next (box_below _ _) (box_below _ _)⟩
              · have phi : ¬ (hi : Int) = 0 := by omega
                have HF := hide (show (f : Int) = 3 by rw [HU3.out (by unfold unusedP netZ; first | (simp only; omega) | (simp; omega) | simp_all)]; rfl)
                clear HU3 HU0
                go_enter Tryz.func22, Tryz.ntmps22
                go_wp2_with (first
                  | (go_at_call 39; refine (HK _).mono ?_; rintro e X ⟨rfl, rfl⟩))
                all_goals
                  go_ret
                  exact ⟨by rw [HF.out]; rfl, below_next (box_below _ _) (box_below _ _)⟩
            · have plo : ¬ (lo : Int) = 0 := by omega
              have HF := hide (show (f : Int) = 3 by rw [HU3.out (by unfold unusedP netZ; first | (simp only; omega) | (simp; omega) | simp_all)]; rfl)
              clear HU3 HU0
              go_enter Tryz.func22, Tryz.ntmps22
              go_wp2_with (first
                | (go_at_call 39; refine (HK _).mono ?_; rintro e X ⟨rfl, rfl⟩))
              all_goals
                go_ret
                exact ⟨by rw [HF.out]; rfl, below_next (box_below _ _) (box_below _ _)⟩
          · have pb : ¬ (b : Int) = 0 := by omega
            have HF := hide (show (f : Int) = 3 by rw [HU3.out (by unfold unusedP netZ; first | (simp only; omega) | (simp; omega) | simp_all)]; rfl)
            clear HU3 HU0
            go_enter Tryz.func22, Tryz.ntmps22
            go_wp2_with (first
              | (go_at_call 39; refine (HK _).mono ?_; rintro e X ⟨rfl, rfl⟩))
            all_goals
              go_ret
              exact ⟨by rw [HF.out]; rfl, below_next (box_below _ _) (box_below _ _)⟩
        · have pip : ¬ (ip : Int) = 0 := by omega
          have HF := hide (show (f : Int) = 3 by rw [HU3.out (by unfold unusedP netZ; first | (simp only; omega) | (simp; omega) | simp_all)]; rfl)
          clear HU3 HU0
          go_enter Tryz.func22, Tryz.ntmps22
          go_wp2_with (first
            | (go_at_call 39; refine (HK _).mono ?_; rintro e X ⟨rfl, rfl⟩))
          all_goals
            go_ret
            exact ⟨by rw [HF.out]; rfl, below_next (box_below _ _) (box_below _ _)⟩
      · have pg : (0 : Int) < g.size := by omega
        have HF := hide (show (f : Int) = 3 by rw [HU3.out (by unfold unusedP netZ; first | (simp only; omega) | (simp; omega) | simp_all)]; rfl)
        clear HU3 HU0
        go_enter Tryz.func22, Tryz.ntmps22
        go_wp2_with (first
          | (go_at_call 39; refine (HK _).mono ?_; rintro e X ⟨rfl, rfl⟩))
        all_goals
          go_ret
          exact ⟨by rw [HF.out]; rfl, below_next (box_below _ _) (box_below _ _)⟩
  · have pm : (0 : Int) < m := by omega
    have HF := hide (show (f : Int) = 3 by rw [HU3.out (by unfold unusedP netZ; first | (simp only; omega) | (simp; omega) | simp_all)]; rfl)
    clear HU3 HU0
    go_enter Tryz.func22, Tryz.ntmps22
    go_wp2_with (first
      | (go_at_call 39; refine (HK _).mono ?_; rintro e X ⟨rfl, rfl⟩))
    all_goals
      go_ret
      exact ⟨by rw [HF.out]; rfl, below_next (box_below _ _) (box_below _ _)⟩

set_option maxHeartbeats 8000000 in
set_option maxRecDepth 100000 in
theorem dcondF_mask (nr a : Nat) (hnr : nr < 9) (ha : a ≤ 3) (v m : Nat) (g : ByteArray) (ip : Nat) (b lo hi : Int) (w : World) (hk : kindAt nr a = 1) (f : Nat) (hu3 : unusedP ⟨a, 7, v, m, g, ⟨ip, b, lo, hi⟩⟩ → f = 3) (hu0 : ¬ unusedP ⟨a, 7, v, m, g, ⟨ip, b, lo, hi⟩⟩ → f = 0) :
    Calls Tryz.prog 22 #[.int .i64 nr, condV ⟨a, 7, v, m, g, ⟨ip, b, lo, hi⟩⟩] w fun e w' => e = .returned (.int .i64 f) ∧ Below w.heap.size w w' := by
  have HK := fun X => dkind_any nr a hnr (by omega) X
  rw [hk] at HK
  have HU3 := hide hu3
  have HU0 := hide hu0
  clear hk hu3 hu0 hnr
  unfold condV
  simp only
  have i1 : ¬ (a : Int) < 0 := by omega
  have i2 : ¬ 3 < (a : Int) := by omega
  by_cases hm : m = 0
  · subst hm
    by_cases hv : v = 0
    · subst hv
      by_cases hg : g.size = 0
      · have pg : ¬ (0 : Int) < g.size := by omega
        by_cases hip : ip = 0
        · subst hip
          by_cases hb : b = 0
          · subst hb
            by_cases hlo : lo = 0
            · subst hlo
              by_cases hhi : hi = 0
              · subst hhi
                have HF := hide (show (f : Int) = 0 by rw [HU0.out (by unfold unusedP netZ; first | (simp only; omega) | (simp; omega) | simp_all)]; rfl)
                clear HU3 HU0
                go_enter Tryz.func22, Tryz.ntmps22
                go_wp2_with (first
                  | (go_at_call 39; refine (HK _).mono ?_; rintro e X ⟨rfl, rfl⟩))
                all_goals
                  go_ret
                  exact ⟨by rw [HF.out]; rfl, below_next (box_below _ _) (box_below _ _)⟩
              · have phi : ¬ (hi : Int) = 0 := by omega
                have HF := hide (show (f : Int) = 3 by rw [HU3.out (by unfold unusedP netZ; first | (simp only; omega) | (simp; omega) | simp_all)]; rfl)
                clear HU3 HU0
                go_enter Tryz.func22, Tryz.ntmps22
                go_wp2_with (first
                  | (go_at_call 39; refine (HK _).mono ?_; rintro e X ⟨rfl, rfl⟩))
                all_goals
                  go_ret
                  exact ⟨by rw [HF.out]; rfl, below_next (box_below _ _) (box_below _ _)⟩
            · have plo : ¬ (lo : Int) = 0 := by omega
              have HF := hide (show (f : Int) = 3 by rw [HU3.out (by unfold unusedP netZ; first | (simp only; omega) | (simp; omega) | simp_all)]; rfl)
              clear HU3 HU0
              go_enter Tryz.func22, Tryz.ntmps22
              go_wp2_with (first
                | (go_at_call 39; refine (HK _).mono ?_; rintro e X ⟨rfl, rfl⟩))
              all_goals
                go_ret
                exact ⟨by rw [HF.out]; rfl, below_next (box_below _ _) (box_below _ _)⟩
          · have pb : ¬ (b : Int) = 0 := by omega
            have HF := hide (show (f : Int) = 3 by rw [HU3.out (by unfold unusedP netZ; first | (simp only; omega) | (simp; omega) | simp_all)]; rfl)
            clear HU3 HU0
            go_enter Tryz.func22, Tryz.ntmps22
            go_wp2_with (first
              | (go_at_call 39; refine (HK _).mono ?_; rintro e X ⟨rfl, rfl⟩))
            all_goals
              go_ret
              exact ⟨by rw [HF.out]; rfl, below_next (box_below _ _) (box_below _ _)⟩
        · have pip : ¬ (ip : Int) = 0 := by omega
          have HF := hide (show (f : Int) = 3 by rw [HU3.out (by unfold unusedP netZ; first | (simp only; omega) | (simp; omega) | simp_all)]; rfl)
          clear HU3 HU0
          go_enter Tryz.func22, Tryz.ntmps22
          go_wp2_with (first
            | (go_at_call 39; refine (HK _).mono ?_; rintro e X ⟨rfl, rfl⟩))
          all_goals
            go_ret
            exact ⟨by rw [HF.out]; rfl, below_next (box_below _ _) (box_below _ _)⟩
      · have pg : (0 : Int) < g.size := by omega
        have HF := hide (show (f : Int) = 3 by rw [HU3.out (by unfold unusedP netZ; first | (simp only; omega) | (simp; omega) | simp_all)]; rfl)
        clear HU3 HU0
        go_enter Tryz.func22, Tryz.ntmps22
        go_wp2_with (first
          | (go_at_call 39; refine (HK _).mono ?_; rintro e X ⟨rfl, rfl⟩))
        all_goals
          go_ret
          exact ⟨by rw [HF.out]; rfl, below_next (box_below _ _) (box_below _ _)⟩
    · have pv : (0 : Int) < v := by omega
      by_cases hg : g.size = 0
      · have pg : ¬ (0 : Int) < g.size := by omega
        by_cases hip : ip = 0
        · subst hip
          by_cases hb : b = 0
          · subst hb
            by_cases hlo : lo = 0
            · subst hlo
              by_cases hhi : hi = 0
              · subst hhi
                have HF := hide (show (f : Int) = 0 by rw [HU0.out (by unfold unusedP netZ; first | (simp only; omega) | (simp; omega) | simp_all)]; rfl)
                clear HU3 HU0
                go_enter Tryz.func22, Tryz.ntmps22
                go_wp2_with (first
                  | (go_at_call 39; refine (HK _).mono ?_; rintro e X ⟨rfl, rfl⟩))
                all_goals
                  go_ret
                  exact ⟨by rw [HF.out]; rfl, below_next (box_below _ _) (box_below _ _)⟩
              · have phi : ¬ (hi : Int) = 0 := by omega
                have HF := hide (show (f : Int) = 3 by rw [HU3.out (by unfold unusedP netZ; first | (simp only; omega) | (simp; omega) | simp_all)]; rfl)
                clear HU3 HU0
                go_enter Tryz.func22, Tryz.ntmps22
                go_wp2_with (first
                  | (go_at_call 39; refine (HK _).mono ?_; rintro e X ⟨rfl, rfl⟩))
                all_goals
                  go_ret
                  exact ⟨by rw [HF.out]; rfl, below_next (box_below _ _) (box_below _ _)⟩
            · have plo : ¬ (lo : Int) = 0 := by omega
              have HF := hide (show (f : Int) = 3 by rw [HU3.out (by unfold unusedP netZ; first | (simp only; omega) | (simp; omega) | simp_all)]; rfl)
              clear HU3 HU0
              go_enter Tryz.func22, Tryz.ntmps22
              go_wp2_with (first
                | (go_at_call 39; refine (HK _).mono ?_; rintro e X ⟨rfl, rfl⟩))
              all_goals
                go_ret
                exact ⟨by rw [HF.out]; rfl, below_next (box_below _ _) (box_below _ _)⟩
          · have pb : ¬ (b : Int) = 0 := by omega
            have HF := hide (show (f : Int) = 3 by rw [HU3.out (by unfold unusedP netZ; first | (simp only; omega) | (simp; omega) | simp_all)]; rfl)
            clear HU3 HU0
            go_enter Tryz.func22, Tryz.ntmps22
            go_wp2_with (first
              | (go_at_call 39; refine (HK _).mono ?_; rintro e X ⟨rfl, rfl⟩))
            all_goals
              go_ret
              exact ⟨by rw [HF.out]; rfl, below_next (box_below _ _) (box_below _ _)⟩
        · have pip : ¬ (ip : Int) = 0 := by omega
          have HF := hide (show (f : Int) = 3 by rw [HU3.out (by unfold unusedP netZ; first | (simp only; omega) | (simp; omega) | simp_all)]; rfl)
          clear HU3 HU0
          go_enter Tryz.func22, Tryz.ntmps22
          go_wp2_with (first
            | (go_at_call 39; refine (HK _).mono ?_; rintro e X ⟨rfl, rfl⟩))
          all_goals
            go_ret
            exact ⟨by rw [HF.out]; rfl, below_next (box_below _ _) (box_below _ _)⟩
      · have pg : (0 : Int) < g.size := by omega
        have HF := hide (show (f : Int) = 3 by rw [HU3.out (by unfold unusedP netZ; first | (simp only; omega) | (simp; omega) | simp_all)]; rfl)
        clear HU3 HU0
        go_enter Tryz.func22, Tryz.ntmps22
        go_wp2_with (first
          | (go_at_call 39; refine (HK _).mono ?_; rintro e X ⟨rfl, rfl⟩))
        all_goals
          go_ret
          exact ⟨by rw [HF.out]; rfl, below_next (box_below _ _) (box_below _ _)⟩
  · have pm : (0 : Int) < m := by omega
    by_cases hv : v = 0
    · subst hv
      by_cases hg : g.size = 0
      · have pg : ¬ (0 : Int) < g.size := by omega
        by_cases hip : ip = 0
        · subst hip
          by_cases hb : b = 0
          · subst hb
            by_cases hlo : lo = 0
            · subst hlo
              by_cases hhi : hi = 0
              · subst hhi
                have HF := hide (show (f : Int) = 0 by rw [HU0.out (by unfold unusedP netZ; first | (simp only; omega) | (simp; omega) | simp_all)]; rfl)
                clear HU3 HU0
                go_enter Tryz.func22, Tryz.ntmps22
                go_wp2_with (first
                  | (go_at_call 39; refine (HK _).mono ?_; rintro e X ⟨rfl, rfl⟩))
                all_goals
                  go_ret
                  exact ⟨by rw [HF.out]; rfl, below_next (box_below _ _) (box_below _ _)⟩
              · have phi : ¬ (hi : Int) = 0 := by omega
                have HF := hide (show (f : Int) = 3 by rw [HU3.out (by unfold unusedP netZ; first | (simp only; omega) | (simp; omega) | simp_all)]; rfl)
                clear HU3 HU0
                go_enter Tryz.func22, Tryz.ntmps22
                go_wp2_with (first
                  | (go_at_call 39; refine (HK _).mono ?_; rintro e X ⟨rfl, rfl⟩))
                all_goals
                  go_ret
                  exact ⟨by rw [HF.out]; rfl, below_next (box_below _ _) (box_below _ _)⟩
            · have plo : ¬ (lo : Int) = 0 := by omega
              have HF := hide (show (f : Int) = 3 by rw [HU3.out (by unfold unusedP netZ; first | (simp only; omega) | (simp; omega) | simp_all)]; rfl)
              clear HU3 HU0
              go_enter Tryz.func22, Tryz.ntmps22
              go_wp2_with (first
                | (go_at_call 39; refine (HK _).mono ?_; rintro e X ⟨rfl, rfl⟩))
              all_goals
                go_ret
                exact ⟨by rw [HF.out]; rfl, below_next (box_below _ _) (box_below _ _)⟩
          · have pb : ¬ (b : Int) = 0 := by omega
            have HF := hide (show (f : Int) = 3 by rw [HU3.out (by unfold unusedP netZ; first | (simp only; omega) | (simp; omega) | simp_all)]; rfl)
            clear HU3 HU0
            go_enter Tryz.func22, Tryz.ntmps22
            go_wp2_with (first
              | (go_at_call 39; refine (HK _).mono ?_; rintro e X ⟨rfl, rfl⟩))
            all_goals
              go_ret
              exact ⟨by rw [HF.out]; rfl, below_next (box_below _ _) (box_below _ _)⟩
        · have pip : ¬ (ip : Int) = 0 := by omega
          have HF := hide (show (f : Int) = 3 by rw [HU3.out (by unfold unusedP netZ; first | (simp only; omega) | (simp; omega) | simp_all)]; rfl)
          clear HU3 HU0
          go_enter Tryz.func22, Tryz.ntmps22
          go_wp2_with (first
            | (go_at_call 39; refine (HK _).mono ?_; rintro e X ⟨rfl, rfl⟩))
          all_goals
            go_ret
            exact ⟨by rw [HF.out]; rfl, below_next (box_below _ _) (box_below _ _)⟩
      · have pg : (0 : Int) < g.size := by omega
        have HF := hide (show (f : Int) = 3 by rw [HU3.out (by unfold unusedP netZ; first | (simp only; omega) | (simp; omega) | simp_all)]; rfl)
        clear HU3 HU0
        go_enter Tryz.func22, Tryz.ntmps22
        go_wp2_with (first
          | (go_at_call 39; refine (HK _).mono ?_; rintro e X ⟨rfl, rfl⟩))
        all_goals
          go_ret
          exact ⟨by rw [HF.out]; rfl, below_next (box_below _ _) (box_below _ _)⟩
    · have pv : (0 : Int) < v := by omega
      by_cases hg : g.size = 0
      · have pg : ¬ (0 : Int) < g.size := by omega
        by_cases hip : ip = 0
        · subst hip
          by_cases hb : b = 0
          · subst hb
            by_cases hlo : lo = 0
            · subst hlo
              by_cases hhi : hi = 0
              · subst hhi
                have HF := hide (show (f : Int) = 0 by rw [HU0.out (by unfold unusedP netZ; first | (simp only; omega) | (simp; omega) | simp_all)]; rfl)
                clear HU3 HU0
                go_enter Tryz.func22, Tryz.ntmps22
                go_wp2_with (first
                  | (go_at_call 39; refine (HK _).mono ?_; rintro e X ⟨rfl, rfl⟩))
                all_goals
                  go_ret
                  exact ⟨by rw [HF.out]; rfl, below_next (box_below _ _) (box_below _ _)⟩
              · have phi : ¬ (hi : Int) = 0 := by omega
                have HF := hide (show (f : Int) = 3 by rw [HU3.out (by unfold unusedP netZ; first | (simp only; omega) | (simp; omega) | simp_all)]; rfl)
                clear HU3 HU0
                go_enter Tryz.func22, Tryz.ntmps22
                go_wp2_with (first
                  | (go_at_call 39; refine (HK _).mono ?_; rintro e X ⟨rfl, rfl⟩))
                all_goals
                  go_ret
                  exact ⟨by rw [HF.out]; rfl, below_next (box_below _ _) (box_below _ _)⟩
            · have plo : ¬ (lo : Int) = 0 := by omega
              have HF := hide (show (f : Int) = 3 by rw [HU3.out (by unfold unusedP netZ; first | (simp only; omega) | (simp; omega) | simp_all)]; rfl)
              clear HU3 HU0
              go_enter Tryz.func22, Tryz.ntmps22
              go_wp2_with (first
                | (go_at_call 39; refine (HK _).mono ?_; rintro e X ⟨rfl, rfl⟩))
              all_goals
                go_ret
                exact ⟨by rw [HF.out]; rfl, below_next (box_below _ _) (box_below _ _)⟩
          · have pb : ¬ (b : Int) = 0 := by omega
            have HF := hide (show (f : Int) = 3 by rw [HU3.out (by unfold unusedP netZ; first | (simp only; omega) | (simp; omega) | simp_all)]; rfl)
            clear HU3 HU0
            go_enter Tryz.func22, Tryz.ntmps22
            go_wp2_with (first
              | (go_at_call 39; refine (HK _).mono ?_; rintro e X ⟨rfl, rfl⟩))
            all_goals
              go_ret
              exact ⟨by rw [HF.out]; rfl, below_next (box_below _ _) (box_below _ _)⟩
        · have pip : ¬ (ip : Int) = 0 := by omega
          have HF := hide (show (f : Int) = 3 by rw [HU3.out (by unfold unusedP netZ; first | (simp only; omega) | (simp; omega) | simp_all)]; rfl)
          clear HU3 HU0
          go_enter Tryz.func22, Tryz.ntmps22
          go_wp2_with (first
            | (go_at_call 39; refine (HK _).mono ?_; rintro e X ⟨rfl, rfl⟩))
          all_goals
            go_ret
            exact ⟨by rw [HF.out]; rfl, below_next (box_below _ _) (box_below _ _)⟩
      · have pg : (0 : Int) < g.size := by omega
        have HF := hide (show (f : Int) = 3 by rw [HU3.out (by unfold unusedP netZ; first | (simp only; omega) | (simp; omega) | simp_all)]; rfl)
        clear HU3 HU0
        go_enter Tryz.func22, Tryz.ntmps22
        go_wp2_with (first
          | (go_at_call 39; refine (HK _).mono ?_; rintro e X ⟨rfl, rfl⟩))
        all_goals
          go_ret
          exact ⟨by rw [HF.out]; rfl, below_next (box_below _ _) (box_below _ _)⟩

set_option maxHeartbeats 8000000 in
set_option maxRecDepth 100000 in
theorem dcondF_like (nr a : Nat) (hnr : nr < 9) (ha : a ≤ 3) (v m : Nat) (g : ByteArray) (ip : Nat) (b lo hi : Int) (w : World) (hk : kindAt nr a = 2) (f : Nat) (hu3 : unusedP ⟨a, 8, v, m, g, ⟨ip, b, lo, hi⟩⟩ → f = 3) (hu0 : ¬ unusedP ⟨a, 8, v, m, g, ⟨ip, b, lo, hi⟩⟩ → f = globF g) :
    Calls Tryz.prog 22 #[.int .i64 nr, condV ⟨a, 8, v, m, g, ⟨ip, b, lo, hi⟩⟩] w fun e w' => e = .returned (.int .i64 f) ∧ Below w.heap.size w w' := by
  have HK := fun X => dkind_any nr a hnr (by omega) X
  rw [hk] at HK
  have HU3 := hide hu3
  have HU0 := hide hu0
  clear hk hu3 hu0 hnr
  unfold condV
  simp only
  have i1 : ¬ (a : Int) < 0 := by omega
  have i2 : ¬ 3 < (a : Int) := by omega
  by_cases hm : m = 0
  · subst hm
    by_cases hv : v = 0
    · subst hv
      by_cases hg : g.size = 0
      · have pg : ¬ (0 : Int) < g.size := by omega
        by_cases hip : ip = 0
        · subst hip
          by_cases hb : b = 0
          · subst hb
            by_cases hlo : lo = 0
            · subst hlo
              by_cases hhi : hi = 0
              · subst hhi
                have HF := hide (HU0.out (by unfold unusedP netZ; first | (simp only; omega) | (simp; omega) | simp_all))
                have HG := fun X => dglobF_any g X
                clear HU3 HU0
                go_enter Tryz.func22, Tryz.ntmps22
                go_wp2_with (first
                  | (go_at_call 39; refine (HK _).mono ?_; rintro e X ⟨rfl, rfl⟩)
                  | (go_at_call 40; refine (HG _).mono ?_; rintro e X ⟨rfl, hX⟩))
                all_goals
                  go_ret
                  exact ⟨by rw [HF.out]; rfl, below_next (below_next (box_below _ _) (box_below _ _)) hX⟩
              · have phi : ¬ (hi : Int) = 0 := by omega
                have HF := hide (show (f : Int) = 3 by rw [HU3.out (by unfold unusedP netZ; first | (simp only; omega) | (simp; omega) | simp_all)]; rfl)
                clear HU3 HU0
                go_enter Tryz.func22, Tryz.ntmps22
                go_wp2_with (first
                  | (go_at_call 39; refine (HK _).mono ?_; rintro e X ⟨rfl, rfl⟩))
                all_goals
                  go_ret
                  exact ⟨by rw [HF.out]; rfl, below_next (box_below _ _) (box_below _ _)⟩
            · have plo : ¬ (lo : Int) = 0 := by omega
              have HF := hide (show (f : Int) = 3 by rw [HU3.out (by unfold unusedP netZ; first | (simp only; omega) | (simp; omega) | simp_all)]; rfl)
              clear HU3 HU0
              go_enter Tryz.func22, Tryz.ntmps22
              go_wp2_with (first
                | (go_at_call 39; refine (HK _).mono ?_; rintro e X ⟨rfl, rfl⟩))
              all_goals
                go_ret
                exact ⟨by rw [HF.out]; rfl, below_next (box_below _ _) (box_below _ _)⟩
          · have pb : ¬ (b : Int) = 0 := by omega
            have HF := hide (show (f : Int) = 3 by rw [HU3.out (by unfold unusedP netZ; first | (simp only; omega) | (simp; omega) | simp_all)]; rfl)
            clear HU3 HU0
            go_enter Tryz.func22, Tryz.ntmps22
            go_wp2_with (first
              | (go_at_call 39; refine (HK _).mono ?_; rintro e X ⟨rfl, rfl⟩))
            all_goals
              go_ret
              exact ⟨by rw [HF.out]; rfl, below_next (box_below _ _) (box_below _ _)⟩
        · have pip : ¬ (ip : Int) = 0 := by omega
          have HF := hide (show (f : Int) = 3 by rw [HU3.out (by unfold unusedP netZ; first | (simp only; omega) | (simp; omega) | simp_all)]; rfl)
          clear HU3 HU0
          go_enter Tryz.func22, Tryz.ntmps22
          go_wp2_with (first
            | (go_at_call 39; refine (HK _).mono ?_; rintro e X ⟨rfl, rfl⟩))
          all_goals
            go_ret
            exact ⟨by rw [HF.out]; rfl, below_next (box_below _ _) (box_below _ _)⟩
      · have pg : (0 : Int) < g.size := by omega
        by_cases hip : ip = 0
        · subst hip
          by_cases hb : b = 0
          · subst hb
            by_cases hlo : lo = 0
            · subst hlo
              by_cases hhi : hi = 0
              · subst hhi
                have HF := hide (HU0.out (by unfold unusedP netZ; first | (simp only; omega) | (simp; omega) | simp_all))
                have HG := fun X => dglobF_any g X
                clear HU3 HU0
                go_enter Tryz.func22, Tryz.ntmps22
                go_wp2_with (first
                  | (go_at_call 39; refine (HK _).mono ?_; rintro e X ⟨rfl, rfl⟩)
                  | (go_at_call 40; refine (HG _).mono ?_; rintro e X ⟨rfl, hX⟩))
                all_goals
                  go_ret
                  exact ⟨by rw [HF.out]; rfl, below_next (below_next (box_below _ _) (box_below _ _)) hX⟩
              · have phi : ¬ (hi : Int) = 0 := by omega
                have HF := hide (show (f : Int) = 3 by rw [HU3.out (by unfold unusedP netZ; first | (simp only; omega) | (simp; omega) | simp_all)]; rfl)
                clear HU3 HU0
                go_enter Tryz.func22, Tryz.ntmps22
                go_wp2_with (first
                  | (go_at_call 39; refine (HK _).mono ?_; rintro e X ⟨rfl, rfl⟩))
                all_goals
                  go_ret
                  exact ⟨by rw [HF.out]; rfl, below_next (box_below _ _) (box_below _ _)⟩
            · have plo : ¬ (lo : Int) = 0 := by omega
              have HF := hide (show (f : Int) = 3 by rw [HU3.out (by unfold unusedP netZ; first | (simp only; omega) | (simp; omega) | simp_all)]; rfl)
              clear HU3 HU0
              go_enter Tryz.func22, Tryz.ntmps22
              go_wp2_with (first
                | (go_at_call 39; refine (HK _).mono ?_; rintro e X ⟨rfl, rfl⟩))
              all_goals
                go_ret
                exact ⟨by rw [HF.out]; rfl, below_next (box_below _ _) (box_below _ _)⟩
          · have pb : ¬ (b : Int) = 0 := by omega
            have HF := hide (show (f : Int) = 3 by rw [HU3.out (by unfold unusedP netZ; first | (simp only; omega) | (simp; omega) | simp_all)]; rfl)
            clear HU3 HU0
            go_enter Tryz.func22, Tryz.ntmps22
            go_wp2_with (first
              | (go_at_call 39; refine (HK _).mono ?_; rintro e X ⟨rfl, rfl⟩))
            all_goals
              go_ret
              exact ⟨by rw [HF.out]; rfl, below_next (box_below _ _) (box_below _ _)⟩
        · have pip : ¬ (ip : Int) = 0 := by omega
          have HF := hide (show (f : Int) = 3 by rw [HU3.out (by unfold unusedP netZ; first | (simp only; omega) | (simp; omega) | simp_all)]; rfl)
          clear HU3 HU0
          go_enter Tryz.func22, Tryz.ntmps22
          go_wp2_with (first
            | (go_at_call 39; refine (HK _).mono ?_; rintro e X ⟨rfl, rfl⟩))
          all_goals
            go_ret
            exact ⟨by rw [HF.out]; rfl, below_next (box_below _ _) (box_below _ _)⟩
    · have pv : (0 : Int) < v := by omega
      have HF := hide (show (f : Int) = 3 by rw [HU3.out (by unfold unusedP netZ; first | (simp only; omega) | (simp; omega) | simp_all)]; rfl)
      clear HU3 HU0
      go_enter Tryz.func22, Tryz.ntmps22
      go_wp2_with (first
        | (go_at_call 39; refine (HK _).mono ?_; rintro e X ⟨rfl, rfl⟩))
      all_goals
        go_ret
        exact ⟨by rw [HF.out]; rfl, below_next (box_below _ _) (box_below _ _)⟩
  · have pm : (0 : Int) < m := by omega
    have HF := hide (show (f : Int) = 3 by rw [HU3.out (by unfold unusedP netZ; first | (simp only; omega) | (simp; omega) | simp_all)]; rfl)
    clear HU3 HU0
    go_enter Tryz.func22, Tryz.ntmps22
    go_wp2_with (first
      | (go_at_call 39; refine (HK _).mono ?_; rintro e X ⟨rfl, rfl⟩))
    all_goals
      go_ret
      exact ⟨by rw [HF.out]; rfl, below_next (box_below _ _) (box_below _ _)⟩

set_option maxHeartbeats 8000000 in
set_option maxRecDepth 100000 in
theorem dcondF_net (nr a : Nat) (hnr : nr < 9) (ha : a ≤ 3) (v m : Nat) (g : ByteArray) (ip : Nat) (b lo hi : Int) (hc : NtOk ⟨ip, b, lo, hi⟩) (w : World) (hk : kindAt nr a = 3) (f : Nat) (hu3 : unusedP ⟨a, 9, v, m, g, ⟨ip, b, lo, hi⟩⟩ → f = 3) (hu0 : ¬ unusedP ⟨a, 9, v, m, g, ⟨ip, b, lo, hi⟩⟩ → f = faultOf ip b lo hi) :
    Calls Tryz.prog 22 #[.int .i64 nr, condV ⟨a, 9, v, m, g, ⟨ip, b, lo, hi⟩⟩] w fun e w' => e = .returned (.int .i64 f) ∧ Below w.heap.size w w' := by
  have HK := fun X => dkind_any nr a hnr (by omega) X
  rw [hk] at HK
  have HG := fun X => netFault_any ip hc.ip b lo hi hc.bits hc.lo hc.hi X
  unfold netV at HG
  obtain ⟨ff, hff⟩ : ∃ x, x = faultOf ip b lo hi := ⟨_, rfl⟩
  rw [← hff] at HG hu0
  clear hff hc
  have HU3 := hide hu3
  have HU0 := hide hu0
  clear hk hu3 hu0 hnr
  unfold condV
  simp only
  have i1 : ¬ (a : Int) < 0 := by omega
  have i2 : ¬ 3 < (a : Int) := by omega
  by_cases hm : m = 0
  · subst hm
    by_cases hv : v = 0
    · subst hv
      by_cases hg : g.size = 0
      · have pg : ¬ (0 : Int) < g.size := by omega
        by_cases hip : ip = 0
        case neg =>
          have pip : ¬ (ip : Int) = 0 := by omega
          have HF := hide (HU0.out (by unfold unusedP netZ; first | (simp only; omega) | (simp; omega) | simp_all))
          clear HU3 HU0
          go_enter Tryz.func22, Tryz.ntmps22
          go_wp2_with (first
            | (go_at_call 39; refine (HK _).mono ?_; rintro e X ⟨rfl, rfl⟩)
            | (go_at_call 41; refine (HG _).mono ?_; rintro e X ⟨rfl, hX⟩))
          all_goals
            go_ret
            exact ⟨by rw [HF.out]; rfl, below_next (below_next (box_below _ _) (box_below _ _)) hX⟩
        subst hip
        have hz : ((0 : Nat) : Int) = 0 := rfl
        try simp only [hz] at HG
        clear hz
        by_cases hb : b = 0
        case neg =>
          have pb : ¬ (b : Int) = 0 := by omega
          have HF := hide (HU0.out (by unfold unusedP netZ; first | (simp only; omega) | (simp; omega) | simp_all))
          clear HU3 HU0
          go_enter Tryz.func22, Tryz.ntmps22
          go_wp2_with (first
            | (go_at_call 39; refine (HK _).mono ?_; rintro e X ⟨rfl, rfl⟩)
            | (go_at_call 41; refine (HG _).mono ?_; rintro e X ⟨rfl, hX⟩))
          all_goals
            go_ret
            exact ⟨by rw [HF.out]; rfl, below_next (below_next (box_below _ _) (box_below _ _)) hX⟩
        subst hb
        by_cases hlo : lo = 0
        case neg =>
          have plo : ¬ (lo : Int) = 0 := by omega
          have HF := hide (HU0.out (by unfold unusedP netZ; first | (simp only; omega) | (simp; omega) | simp_all))
          clear HU3 HU0
          go_enter Tryz.func22, Tryz.ntmps22
          go_wp2_with (first
            | (go_at_call 39; refine (HK _).mono ?_; rintro e X ⟨rfl, rfl⟩)
            | (go_at_call 41; refine (HG _).mono ?_; rintro e X ⟨rfl, hX⟩))
          all_goals
            go_ret
            exact ⟨by rw [HF.out]; rfl, below_next (below_next (box_below _ _) (box_below _ _)) hX⟩
        subst hlo
        by_cases hhi : hi = 0
        case neg =>
          have phi : ¬ (hi : Int) = 0 := by omega
          have HF := hide (HU0.out (by unfold unusedP netZ; first | (simp only; omega) | (simp; omega) | simp_all))
          clear HU3 HU0
          go_enter Tryz.func22, Tryz.ntmps22
          go_wp2_with (first
            | (go_at_call 39; refine (HK _).mono ?_; rintro e X ⟨rfl, rfl⟩)
            | (go_at_call 41; refine (HG _).mono ?_; rintro e X ⟨rfl, hX⟩))
          all_goals
            go_ret
            exact ⟨by rw [HF.out]; rfl, below_next (below_next (box_below _ _) (box_below _ _)) hX⟩
        subst hhi
        have HF := hide (HU0.out (by unfold unusedP netZ; first | (simp only; omega) | (simp; omega) | simp_all))
        clear HU3 HU0
        go_enter Tryz.func22, Tryz.ntmps22
        go_wp2_with (first
          | (go_at_call 39; refine (HK _).mono ?_; rintro e X ⟨rfl, rfl⟩)
          | (go_at_call 41; refine (HG _).mono ?_; rintro e X ⟨rfl, hX⟩))
        all_goals
          go_ret
          exact ⟨by rw [HF.out]; rfl, below_next (below_next (box_below _ _) (box_below _ _)) hX⟩
      · have pg : (0 : Int) < g.size := by omega
        have HF := hide (show (f : Int) = 3 by rw [HU3.out (by unfold unusedP netZ; first | (simp only; omega) | (simp; omega) | simp_all)]; rfl)
        clear HU3 HU0
        go_enter Tryz.func22, Tryz.ntmps22
        go_wp2_with (first
          | (go_at_call 39; refine (HK _).mono ?_; rintro e X ⟨rfl, rfl⟩))
        all_goals
          go_ret
          exact ⟨by rw [HF.out]; rfl, below_next (box_below _ _) (box_below _ _)⟩
    · have pv : (0 : Int) < v := by omega
      have HF := hide (show (f : Int) = 3 by rw [HU3.out (by unfold unusedP netZ; first | (simp only; omega) | (simp; omega) | simp_all)]; rfl)
      clear HU3 HU0
      go_enter Tryz.func22, Tryz.ntmps22
      go_wp2_with (first
        | (go_at_call 39; refine (HK _).mono ?_; rintro e X ⟨rfl, rfl⟩))
      all_goals
        go_ret
        exact ⟨by rw [HF.out]; rfl, below_next (box_below _ _) (box_below _ _)⟩
  · have pm : (0 : Int) < m := by omega
    have HF := hide (show (f : Int) = 3 by rw [HU3.out (by unfold unusedP netZ; first | (simp only; omega) | (simp; omega) | simp_all)]; rfl)
    clear HU3 HU0
    go_enter Tryz.func22, Tryz.ntmps22
    go_wp2_with (first
      | (go_at_call 39; refine (HK _).mono ?_; rintro e X ⟨rfl, rfl⟩))
    all_goals
      go_ret
      exact ⟨by rw [HF.out]; rfl, below_next (box_below _ _) (box_below _ _)⟩

theorem dcondF_any (nr : Nat) (hnr : nr < 9) (c : CD) (hc : CdOk c) (w : World) : Calls Tryz.prog 22 #[.int .i64 nr, condV c] w fun e w' => e = .returned (.int .i64 (condF nr c)) ∧ Below w.heap.size w w' := by
  by_cases h : c.arg < 0 ∨ 3 < c.arg ∨ c.op < 1 ∨ 9 < c.op
  · rw [show condF nr c = 1 from if_pos h]
    exact dcondF_bound nr c w h
  have hf : condF nr c = if kindAt nr c.arg.toNat ≠ kindOp c.op ∨ unusedP c then 3 else if c.op = 8 then globF c.glob else if c.op = 9 then netF c.net else 0 := if_neg h
  obtain ⟨arg, op, v, m, g, ⟨ip, b, lo, hi⟩⟩ := c
  simp only [not_or] at h hf
  obtain ⟨a, rfl⟩ : ∃ a : Nat, arg = a := ⟨arg.toNat, by omega⟩
  have ha : a ≤ 3 := by omega
  rw [Int.toNat_natCast] at hf
  by_cases hk : kindAt nr a = kindOp op
  · have h3 : unusedP ⟨a, op, v, m, g, ⟨ip, b, lo, hi⟩⟩ → condF nr ⟨a, op, v, m, g, ⟨ip, b, lo, hi⟩⟩ = 3 := fun hu => by rw [hf, if_pos (.inr hu)]
    have h0 : ¬ unusedP ⟨a, op, v, m, g, ⟨ip, b, lo, hi⟩⟩ → condF nr ⟨a, op, v, m, g, ⟨ip, b, lo, hi⟩⟩ = if op = 8 then globF g else if op = 9 then faultOf ip b lo hi else 0 := fun hu => by
      rw [hf, if_neg (by rw [not_or]; exact ⟨fun hc => hc hk, hu⟩)]
      rfl
    by_cases h8 : op = 8
    · subst h8
      exact dcondF_like nr a hnr ha v m g ip b lo hi w hk _ h3 h0
    by_cases h9 : op = 9
    · subst h9
      exact dcondF_net nr a hnr ha v m g ip b lo hi hc.net w hk _ h3 h0
    have hk1 : kindAt nr a = 1 := by rw [hk]; unfold kindOp; rw [if_neg h8, if_neg h9]
    rw [if_neg h8, if_neg h9] at h0
    by_cases h7 : op = 7
    · subst h7
      exact dcondF_mask nr a hnr ha v m g ip b lo hi w hk1 _ h3 h0
    · exact dcondF_num nr a hnr ha op h.2.2.1 (by omega) v m g ip b lo hi w hk1 _ h3 h0
  · rw [hf, if_pos (.inl hk)]
    exact dcondF_kind nr a hnr ha op v m g ip b lo hi h.2.2.1 h.2.2.2 w hk
end Go.Proofs.YtkogafponpjdnaaGreatDoor

/- The document's PolicyFault. -/
namespace Go.Proofs.YtkogafponpjdnaaGreatDoor
open Go.RowKit Go.Sort

theorem firstF_at {rs : List RL} {i f : Nat} (h : firstF ((rs.take i).map ruleF) = f) (hf : f ≠ 0) : firstF (rs.map ruleF) = f := by
  rw [← List.take_append_drop i rs, List.map_append, firstF_append, if_neg (by rw [h]; exact hf), h]
theorem firstC_at {cs : List CD} {k i f : Nat} (h : firstF ((cs.take i).map (condF k)) = f) (hf : f ≠ 0) : firstF (cs.map (condF k)) = f := by
  rw [← List.take_append_drop i cs, List.map_append, firstF_append, if_neg (by rw [h]; exact hf), h]

set_option maxHeartbeats 4000000 in
set_option maxRecDepth 100000 in
theorem dpolF_any (p : POL) (oa : Option Addr) (cap : Nat) (w : World) (h : IsPol oa cap p w) :
    Calls Tryz.prog 9 #[polV p oa cap] w fun e w' => e = .returned (.int .i64 (polF p)) ∧ Below w.heap.size w w' := by
  obtain ⟨n, hn⟩ : ∃ n, n = p.rules.length := ⟨_, rfl⟩
  have HC := hide (pol_parts h n hn)
  have hmax : n ≤ 9223372036854775807 := by have h1 := h.le; have h2 := h.cap; unfold maxLen at h2; omega
  clear h
  obtain ⟨rs, ⟨ak, ae⟩⟩ := p
  unfold polV
  simp only at HC hn ⊢
  rw [← hn]
  have hf0 : polF ⟨rs, ⟨ak, ae⟩⟩ = if 12 < n then 2 else if actF ⟨ak, ae⟩ = 0 then firstF (rs.map ruleF) else actF ⟨ak, ae⟩ := by rw [hn]; rfl
  obtain ⟨pf, hpf⟩ : ∃ x, x = polF ⟨rs, ⟨ak, ae⟩⟩ := ⟨_, rfl⟩
  rw [← hpf] at hf0 ⊢
  clear hpf
  by_cases h12 : 12 < n
  · have HF := hide (show (pf : Int) = 2 by rw [hf0, if_pos h12]; rfl)
    clear hf0 hn
    go_enter Tryz.func9, Tryz.ntmps9
    go_wp2
    go_ret
    exact ⟨by rw [HF.out]; rfl, box_below _ _⟩
  rw [if_neg h12] at hf0
  have HA := fun X => dactF_any ⟨ak, ae⟩ X
  obtain ⟨f0, hf⟩ : ∃ f, f = actF ⟨ak, ae⟩ := ⟨_, rfl⟩
  rw [← hf] at HA hf0
  have HF := hide hf0
  have HN := hide hn
  have HL := hide (show ∀ i, i < n → ∃ c, rs[i]? = some c ∧ rs.take (i + 1) = rs.take i ++ [c] from fun i h => take_next (by omega))
  clear hf0 hn hf
  unfold actV at HA
  simp only at HA
  obtain ⟨V, hV, hB, hsz, hx⟩ := one_box w #[.slice oa n cap, .int .i64 ak, .int .i64 ae] 26
  have x0 := hx 0
  simp only [List.getElem?_toArray, List.getElem?_cons_zero] at x0
  clear hx
  by_cases hz0 : f0 = 0
  case neg =>
    have p0 : (0 : Int) < f0 := by omega
    have HE := hide (show pf = f0 by rw [HF.out, if_neg hz0])
    clear HF
    go_enter Tryz.func9, Tryz.ntmps9
    go_wp2_with (go_at_call 21; refine (HA _).mono ?_; rintro e X ⟨rfl, hX⟩)
    go_ret
    exact ⟨by rw [HE.out]; rfl, below_next (box_below _ _) hX⟩
  subst hz0
  rw [if_pos rfl] at HF
  have hz : ((0 : Nat) : Int) = 0 := rfl
  rw [hz] at HA
  clear hz
  go_enter Tryz.func9, Tryz.ntmps9
  go_wp2_with (go_at_call 21; rw [← hV]; clear hV; refine (HA _).mono ?_; rintro e X ⟨rfl, hX⟩; have k0 := keep_cell hX x0)
  go_loopw [4] (fun I w' => ∃ i : Nat, i ≤ n ∧ I = .int .i64 i ∧ Hid (Below X.heap.size X w') ∧ Hid (firstF ((rs.take i).map ruleF) = 0)) (fun I _ => n - (intOf I).toNat)
  case atStart => exact ⟨0, by omega, rfl, hide (Below.refl _ _), hide rfl⟩
  case round =>
    obtain ⟨i, hi, rfl, HB, HG⟩ := hrel
    have HW := hide (below_next (below_next hB hX) HB.out)
    have g0 := keep_cell HB.out k0
    by_cases hlt : i < n
    · obtain ⟨c, hcs, hcat⟩ := HL.out i hlt
      obtain ⟨b, off, rfl, hbw, HA2⟩ := HC.out (by omega)
      obtain ⟨ca, cc, hR0⟩ := HA2.out i c hcs
      have hR := hR0.on hbw HW.out
      clear hR0
      obtain ⟨m, hm⟩ : ∃ m, m = c.conds.length := ⟨_, rfl⟩
      have hmm : m ≤ 9223372036854775807 := by have h1 := hR.le; have h2 := hR.cap; unfold maxLen at h2; omega
      have hq : firstF ((rs.take (i + 1)).map ruleF) = ruleF c := by rw [hcat, List.map_append, firstF_append, if_pos HG.out]; exact firstF_one _
      obtain ⟨W1, hW1, hW1b, _, hW1c⟩ := one_box wr #[.int .i64 c.nr, .slice ca m cc, .int .i64 c.act.kind, .int .i64 c.act.errno] 65
      have s0 := hW1c 0
      have s1 := hW1c 1
      have s2 := hW1c 2
      have s3 := hW1c 3
      simp only [List.getElem?_toArray, List.getElem?_cons_zero, List.getElem?_cons_succ] at s0 s1 s2 s3
      have HCC := hide (conds_parts (hR.conds.on hW1b) m hm)
      have HCL := hide (show ∀ j, j < m → ∃ x, c.conds[j]? = some x ∧ c.conds.take (j + 1) = c.conds.take j ++ [x] from fun j h => take_next (by omega))
      have HRF := hide (show ruleF c = if c.nr < 0 ∨ 8 < c.nr then 1 else if 4 < m then 2 else if firstF (c.conds.map (condF c.nr.toNat)) = 0 then actF c.act else firstF (c.conds.map (condF c.nr.toNat)) by rw [hm]; rfl)
      have HAC := fun X => dactF_any c.act X
      obtain ⟨p0, p1, p2, p3, _, _, _, _⟩ := hR
      rw [← hm] at p1
      have HM := hide hm
      have HQ := hide hq
      have lb : b < wr.heap.size := Nat.lt_of_lt_of_le hbw HW.out.size
      clear hm hq hcs hcat hW1c
      obtain ⟨nr, cs, ⟨rk, re⟩⟩ := c
      simp only at p0 p1 p2 p3 s0 s1 s2 s3 hW1 HCC HCL HRF HAC HM HQ
      unfold actV at HAC
      simp only at HAC
      by_cases hnr : nr < 0 ∨ 8 < nr
      · have HE := hide (show (pf : Int) = 1 by
          have h1 : ruleF ⟨nr, cs, ⟨rk, re⟩⟩ = 1 := by rw [HRF.out, if_pos hnr]
          rw [HF.out, firstF_at (HQ.out.trans h1) (by omega)]
          rfl)
        clear HRF HQ
        go_wp2
        all_goals first
          | omega
          | (go_ret
             exact ⟨by rw [HE.out]; rfl, below_next HW.out (box_below _ _)⟩)
      rw [if_neg hnr] at HRF
      obtain ⟨k, rfl⟩ : ∃ k : Nat, nr = k := ⟨nr.toNat, by omega⟩
      have hk8 : k < 9 := by omega
      rw [Int.toNat_natCast] at HRF
      have i1 : ¬ (k : Int) < 0 := by omega
      have i2 : ¬ 8 < (k : Int) := by omega
      clear hnr
      by_cases h4 : 4 < m
      · have HE := hide (show (pf : Int) = 2 by
          have h1 : ruleF ⟨(k : Int), cs, ⟨rk, re⟩⟩ = 2 := by rw [HRF.out, if_pos h4]
          rw [HF.out, firstF_at (HQ.out.trans h1) (by omega)]
          rfl)
        clear HRF HQ
        go_wp2
        go_ret
        exact ⟨by rw [HE.out]; rfl, below_next HW.out (box_below _ _)⟩
      rw [if_neg h4] at HRF
      go_wp2
      rw [← hW1]
      clear hW1 p0 p1 p2 p3
      go_loopw [6] (fun J w' => ∃ j : Nat, j ≤ m ∧ J = .int .i64 j ∧ Hid (Below W1.heap.size W1 w') ∧ Hid (firstF ((cs.take j).map (condF k)) = 0)) (fun J _ => m - (intOf J).toNat)
      case atStart => exact ⟨0, by omega, rfl, hide (Below.refl _ _), hide rfl⟩
      case round =>
        obtain ⟨j, hj, rfl, HBJ, HGJ⟩ := hrel
        have t0 := keep_cell HBJ.out s0
        have t1 := keep_cell HBJ.out s1
        by_cases hjl : j < m
        · obtain ⟨x, hxs, hxcat⟩ := HCL.out j hjl
          obtain ⟨b3, off3, rfl, hbw3, HA3⟩ := HCC.out (by omega)
          have hX3 := (HA3.out j x hxs).on fun q => (bcell HBJ.out).1 b3 q hbw3
          have HFX := fun X => dcondF_any k hk8 x hX3.ok X
          have hqx : firstF ((cs.take (j + 1)).map (condF k)) = condF k x := by rw [hxcat, List.map_append, firstF_append, if_pos HGJ.out]; exact firstF_one _
          obtain ⟨fx, hfx⟩ : ∃ f, f = condF k x := ⟨_, rfl⟩
          rw [← hfx] at HFX hqx
          have HQX := hide hqx
          obtain ⟨g0', g1, g2, g3, g4, g5, g6, g7, g8, _⟩ := hX3
          clear hfx hxs hxcat hqx
          obtain ⟨arg, op, vv, mm, gl, ⟨ip, bb, lo, hh⟩⟩ := x
          unfold condV at HFX
          simp only at g0' g1 g2 g3 g4 g5 g6 g7 g8 HFX
          replace t0 := cell_regrown t0
          replace t1 := cell_regrown t1
          replace g0' := cell_regrown g0'
          replace g1 := cell_regrown g1
          replace g2 := cell_regrown g2
          replace g3 := cell_regrown g3
          replace g4 := cell_regrown g4
          replace g5 := cell_regrown g5
          replace g6 := cell_regrown g6
          replace g7 := cell_regrown g7
          replace g8 := cell_regrown g8
          have i3 : (0 : Int) ≤ j := by omega
          have i4 : (j : Int) < m := by omega
          have t1p := keep_cell HBJ.out s1
          go_wp2
          clear t1p
          have cF : ∀ d os, Calls Tryz.prog 22 #[.int .i64 k, .agg #[.int .i64 arg, .int .i64 op, .int .u64 vv, .int .u64 mm, .string gl, .int .u32 ip, .int .i64 bb, .int .i64 lo, .int .i64 hh]] (grow (redrawn wr d) os) fun e w'' => e = .returned (.int .i64 fx) ∧ ∃ p : Regrown, w'' = grow (redrawn wr p.d) p.os := fun d os => Calls.regrown_of (HFX _)
          clear HFX
          refine wp_region_quiet_below (by kernel_rfl) (by kernel_rfl) ?_
          by_cases hfx0 : fx = 0
          · subst hfx0
            repeat (go_big_quiet_step (first | (go_at_call 22; exact cF _ _)))
            refine wpQuiet_nil ?_
            intro _ hw'
            obtain ⟨⟨dq, osq⟩, hw''⟩ := hw'
            subst hw''
            clear cF t0 t1 g0' g1 g2 g3 g4 g5 g6 g7 g8
            go_wp2
            go_round
            case rel => exact ⟨j + 1, by omega, by go_num, hide (below_next HBJ.out (below_regrown _ _ _)), HQX⟩
            case measure => simp [intOf]; omega
          · have HE := hide (show pf = fx by
              have h1 : ruleF ⟨(k : Int), cs, ⟨rk, re⟩⟩ = fx := by rw [HRF.out, firstC_at HQX.out hfx0, if_neg hfx0]
              rw [HF.out, firstF_at (HQ.out.trans h1) hfx0])
            have pfx : (0 : Int) < fx := by omega
            repeat (go_big_quiet_step (first | (go_at_call 22; exact cF _ _)))
            refine wpQuiet_nil ?_
            intro _ hw'
            obtain ⟨⟨dq, osq⟩, hw''⟩ := hw'
            subst hw''
            clear cF t0 t1 g0' g1 g2 g3 g4 g5 g6 g7 g8
            go_wp2
            go_ret
            exact ⟨by rw [HE.out]; rfl, below_next HW.out (below_next hW1b (below_next HBJ.out (below_regrown _ _ _)))⟩
        · obtain rfl : j = m := by omega
          have HRA := hide (show ruleF ⟨(k : Int), cs, ⟨rk, re⟩⟩ = actF ⟨rk, re⟩ by
            have := HGJ.out
            rw [List.take_of_length_le (by rw [HM.out]; exact Nat.le_refl _)] at this
            rw [HRF.out, this, if_pos rfl])
          obtain ⟨fa, hfa⟩ : ∃ f, f = actF ⟨rk, re⟩ := ⟨_, rfl⟩
          rw [← hfa] at HRA HAC
          have t2 := keep_cell HBJ.out s2
          have t3 := keep_cell HBJ.out s3
          clear hfa
          by_cases hfa0 : fa = 0
          · subst hfa0
            have HQ2 := hide (HQ.out.trans HRA.out)
            have hz : ((0 : Nat) : Int) = 0 := rfl
            rw [hz] at HAC
            clear hz
            go_wp2_with (go_at_call 21; refine (HAC _).mono ?_; rintro e X2 ⟨rfl, hX2⟩)
            go_round
            case rel => exact ⟨i + 1, by omega, by go_num, hide (below_next HB.out (below_next hW1b (below_next HBJ.out hX2))), HQ2⟩
            case measure => simp [intOf]; omega
          · have HE := hide (show pf = fa by rw [HF.out, firstF_at (HQ.out.trans HRA.out) hfa0])
            have pfa : (0 : Int) < fa := by omega
            go_wp2_with (go_at_call 21; refine (HAC _).mono ?_; rintro e X2 ⟨rfl, hX2⟩)
            go_ret
            exact ⟨by rw [HE.out]; rfl, below_next HW.out (below_next hW1b (below_next HBJ.out hX2))⟩
    · obtain rfl : i = n := by omega
      have HE := hide (show (pf : Int) = 0 by
        have := HG.out
        rw [List.take_of_length_le (by rw [HN.out]; exact Nat.le_refl _)] at this
        rw [HF.out, this]
        rfl)
      go_wp2
      go_ret
      exact ⟨by rw [HE.out]; rfl, HW.out⟩
end Go.Proofs.YtkogafponpjdnaaGreatDoor
