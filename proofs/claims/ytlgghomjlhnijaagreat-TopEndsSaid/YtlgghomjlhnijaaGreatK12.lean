/- The walk of TopEnds. -/
import Derived.Test.YtlgghomjlhnijaaGreatK11
import Derived.Test.YtlgghomjlhnijaaGreatK10
import Derived.Test.YtlgghomjlhnijaaGreatK1
import Derived.ProofKit
import Derived.Carry
import Derived.OpenShut
import Derived.Deep.Slices
import Derived.Lib.SmallJoins
import Derived.Test.YtlgghomjlhnijaaGreatK6
namespace Go.Proofs.YtlgghomjlhnijaaGreat
open Go.RowKit Mm

theorem acts_at {oa : Option Addr} {n : Nat} {L : Nat → AC} {V X : World} (h : IsActs oa n L V) (hb : Below V.heap.size V X) {i : Nat} (hi : i < n) : ∃ b off, oa = some ⟨b, off, none⟩ ∧ ActAt X b (off + i * 11) (L i) := by
  obtain ⟨b, off, h1, _, h3⟩ := (h.on hb).lie (by omega)
  exact ⟨b, off, h1, h3 i hi⟩
theorem phase_of {n : Nat} (hn : n < 3) (s : WS) : phaseW n s = (s.T n).phase := by
  unfold phaseW
  rw [if_pos ⟨by omega, by omega⟩, Int.toNat_natCast]
theorem enter_zero {n : Nat} (hn : n < 3) {c : KL} {s : WS} (h : (enterW n c s).2 = 0) : (enterW n c s).1 = s.put n (enterT c) := by
  unfold enterW at h ⊢
  rw [if_pos ⟨by omega, by omega⟩, Int.toNat_natCast] at h ⊢
  by_cases h6 : (s.T n).phase = 6
  · rw [if_pos h6] at h; exact absurd h (by show ¬ (8 : Nat) = 0; omega)
  · rw [if_neg h6] at h ⊢
    by_cases h0 : (s.T n).phase = 0
    · rw [if_pos h0]
    · rw [if_neg h0] at h; exact absurd h (by show ¬ (7 : Nat) = 0; omega)
theorem wp_neq_self {o : Oper} {a : Act} {w : World} {K : Act → World → Prop} {Q : Exit → Act → World → Prop} (t : TypeId) (x y : Operand) (t2 : TypeId) (ho : o.op = .binOp .neq t x y t2) (xs : Array Value) (hx : a.eval x = .agg xs) (hy : a.eval y = .agg xs)
    (hg : (eqGuard .neq t x y (.agg xs) (.agg xs)).run Tryz.prog w = .ok () w) (h : (binOp .neq t (.agg xs) (.agg xs)).run Tryz.prog w = .ok (.bool false) w) (hK : K (a.put o.dst (.bool false)) w) : o.wp Tryz.prog a w K Q := by
  unfold Oper.wp execOp
  simp only [ho, hx, hy, Sem.run_bind, hg, h, Result.andThen_ok]
  exact hK
theorem runs_done {n was k : Nat} {c : KL} {s : WS} (h : Runs' n c was k s) (hp : (s.T n).phase = 0 ∨ (s.T n).phase = 6) : ∃ e, mineL n was s.log = [e] ∧ e.call = c := by
  obtain ⟨_, ⟨_, h1, h5, _⟩ | h⟩ := h
  · omega
  · exact h.2
theorem stepW_run (p : POL) {n : Nat} (hn : n < 3) {s : WS} (h0 : (s.T n).phase ≠ 0) (h6 : (s.T n).phase ≠ 6) : stepW p n s = (stepS p n s, true, 0) := by
  unfold stepW
  rw [if_pos ⟨by omega, by omega⟩, Int.toNat_natCast, if_neg h6, if_neg h0]
/-- What has come of a call that ended. -/
structure Done (n : Nat) (c : KL) (was : Nat) (s : WS) : Prop where
  le : was ≤ s.log.length
  ph : (s.T n).phase = 0 ∨ (s.T n).phase = 6
  one : ∃ e, mineL n was s.log = [e] ∧ e.call = c
set_option maxHeartbeats 8000000 in
set_option maxRecDepth 100000 in
theorem topEnds_any (p : POL) (oa : Option Addr) (cap : Nat) (ob : Option Addr) (nb capb : Nat) (hnb : nb ≤ 9223372036854775807) (B : Nat → AC) (n : Int) (c : KL) (hc : KlOk c) (ot : Option Addr) (nt capt : Nat) (hnt : nt ≤ 9223372036854775807) (T : Nat → AC) (w : World) (hp : IsPol oa cap p w) (hB : IsActs ob nb B w) (hT : IsActs ot nt T w) :
    Calls Tryz.prog 5 #[polV p oa cap, .slice ob nb capb, .int .i64 n, klV c, .slice ot nt capt] w fun e w' => e = .returned (.bool true) ∧ Below w.heap.size w w' := by
  obtain ⟨V, hV, hVb, hVx, hVy⟩ := two_box w #[.slice oa p.rules.length cap, .int .i64 p.els.kind, .int .i64 p.els.errno] (klC c) 26 40
  have hsz : V.heap.size = w.heap.size + 2 := by rw [hV, World.size_alloc, World.size_alloc]
  unfold klC at hV hVy
  have x0 := hVx 0
  have x1 := hVx 1
  have x2 := hVx 2
  have k0 := hVy 0
  have k1 := hVy 1
  have k2 := hVy 2
  have k3 := hVy 3
  have k4 := hVy 4
  have k5 := hVy 5
  simp only [List.getElem?_toArray, List.getElem?_cons_zero, List.getElem?_cons_succ] at x0 x1 x2 k0 k1 k2 k3 k4 k5
  have HPV := hide (hp.on hVb)
  have HBV := hide (hB.on hVb)
  have HTV := hide (hT.on hVb)
  have HLP := lightPol_any p oa cap V HPV.out
  have HLB := fun X (hX : Below V.heap.size V X) => Mm.light_any ob nb capb hnb B 30 X (HBV.out.on hX)
  have HLT := fun X (hX : Below V.heap.size V X) => Mm.light_any ot nt capt hnt T 40 X (HTV.out.on hX)
  have HNE := fun (hf : polF p ≠ 0) X (hX : Below V.heap.size V X) => new_err p hf oa cap X (HPV.out.on hX)
  have HNO := fun (hf : polF p = 0) X (hX : Below V.heap.size V X) => new_ok p hf oa cap X (HPV.out.on hX)
  have HPQ := hide (show ∀ hf : polF p = 0, PolOk p from fun hf => pol_ok hf hp.ok)
  have HVB := hide hVb
  obtain ⟨np, hnp⟩ : ∃ n, n = p.rules.length := ⟨_, rfl⟩
  obtain ⟨lz, hlz⟩ : ∃ z, z = lightB p := ⟨_, rfl⟩
  rw [← hlz] at HLP
  unfold polV at HLP HNE HNO ⊢
  simp only [← hnp] at hV x0 HLP HNE HNO ⊢
  obtain ⟨ak, hak⟩ : ∃ n, n = p.els.kind := ⟨_, rfl⟩
  obtain ⟨ae, hae⟩ : ∃ n, n = p.els.errno := ⟨_, rfl⟩
  simp only [← hak, ← hae] at hV x1 x2 HLP HNE HNO ⊢
  unfold klV klC
  clear hVx hVy hp hB hT hVb hnp hlz hak hae
  go_enter Tryz.func5, Tryz.ntmps5
  go_wp2_with fail
  rw [← hV]
  clear hV
  refine HLP.mono ?_
  rintro e W1 ⟨rfl, hb1⟩
  have H1 := hide hb1
  clear HLP hb1
  cases lz with
  | false => as_aux_lemma =>
    go_wp2
    go_ret
    exact ⟨rfl, below_next HVB.out H1.out⟩
  | true =>
    go_wp2_with fail
    refine (HLB W1 H1.out).mono ?_
    rintro e W2 ⟨rfl, hw⟩
    rw [hw]
    clear hw
    cases hlb : Mm.lightR nb B 30 with
    | false => as_aux_lemma =>
      go_wp2
      go_ret
      exact ⟨rfl, below_next HVB.out H1.out⟩
    | true =>
      go_wp2_with fail
      refine (HLT W1 H1.out).mono ?_
      rintro e W2 ⟨rfl, hw⟩
      rw [hw]
      clear hw
      cases hlt : Mm.lightR nt T 40 with
      | false => as_aux_lemma =>
        go_wp2
        go_ret
        exact ⟨rfl, below_next HVB.out H1.out⟩
      | true =>
        replace x0 := keep_cell H1.out x0
        replace x1 := keep_cell H1.out x1
        replace x2 := keep_cell H1.out x2
        by_cases hf : polF p = 0
        · have HN := HNO hf W1 H1.out
          have HQ := HPQ.out hf
          have HLI := hide (And.intro (Mm.light_spec hlb) (Mm.light_spec hlt))
          clear HNE HNO HPQ HLB HLT hlb hlt
          go_wp2_with fail
          refine HN.mono ?_
          rintro e W3 ⟨g, gm, P, rfl, hN⟩
          have HW0 := hide (WL.start hN H1.out)
          clear hN HN H1 x0 x1 x2
          go_wp2
          go_loopw [13] (fun I w' => ∃ (i : Nat) (lv : Value) (s : WS), i ≤ nb ∧ I = .int .i64 i ∧ Hid (WL p g gm P lv s (i * 90) V w')) (fun I _ => nb - (intOf I).toNat)
          case atStart => exact ⟨0, _, _, by omega, rfl, HW0⟩
          case round =>
            obtain ⟨i, lv, s, hi, rfl, HX⟩ := hrel
            clear HW0
            have hnb30 : nb ≤ 30 := by have := HLI.out.1.1; omega
            have i1 : (0 : Int) ≤ i := by omega
            by_cases hlt : i < nb
            · as_aux_lemma =>
              obtain ⟨b, off, rfl, hA⟩ := acts_at HBV.out HX.out.below hlt
              have HD := HX.out.did hf HQ (by omega) (B i) hA.cOk hA.aLt (HLI.out.1.2 i hlt)
              unfold acC at HD
              have c0 := hA.k0
              have c1 := hA.k1
              have c2 := hA.k2
              have c3 := hA.k3
              have c4 := hA.k4
              have c5 := hA.k5
              have c6 := hA.k6
              have c7 := hA.k7
              have c8 := hA.k8
              have c9 := hA.k9
              have c10 := hA.k10
              have i2 : (i : Int) < nb := by omega
              obtain ⟨x, hx⟩ : ∃ x, x = B i := ⟨_, rfl⟩
              rw [← hx] at c0 c1 c2 c3 c4 c5 c6 c7 c8 c9 c10 HD
              clear hA hx
              go_wp2_with fail
              refine HD.mono ?_
              rintro e w' ⟨rfl, lv', h1⟩
              go_wp2
              go_round
              case rel => exact ⟨i + 1, lv', _, by omega, by go_num, hide (h1.weak (by omega))⟩
              case measure => simp [intOf]; omega
            · have i2 : ¬ ((i : Int) < nb) := by omega
              have HX1 := hide (HX.out.weak (show i * 90 ≤ 2700 by omega))
              clear hlt HX
              by_cases hn : 0 ≤ n ∧ n < 3
              · obtain ⟨m, rfl⟩ : ∃ k : Nat, n = k := ⟨n.toNat, by omega⟩
                have hm : m < 3 := by omega
                have m1 : (0 : Int) ≤ m := hn.1
                have m2 : (m : Int) < 3 := hn.2
                have m3 : ¬ ((m : Int) < 0) := by omega
                have m4 : ¬ ((3 : Int) ≤ m) := by omega
                have HE := HX1.out.enter (m : Int) hc
                have q0 := keep_cell HX1.out.below k0
                have q1 := keep_cell HX1.out.below k1
                have q2 := keep_cell HX1.out.below k2
                have q3 := keep_cell HX1.out.below k3
                have q4 := keep_cell HX1.out.below k4
                have q5 := keep_cell HX1.out.below k5
                unfold klV klC at HE
                by_cases he : (enterW m c s).2 = 0
                · rw [he, errV_zero, enter_zero hm he] at HE
                  clear he hn
                  go_wp2_with fail
                  refine HE.mono ?_
                  rintro e w1 ⟨rfl, h1⟩
                  have HX2 := hide h1
                  clear HE h1 HX1 q0 q1 q2 q3 q4 q5
                  have HL := HX2.out.logs (by omega)
                  obtain ⟨was, hwas⟩ : ∃ x, x = (s.put m (enterT c)).log.length := ⟨_, rfl⟩
                  rw [← hwas] at HL
                  have HWAS := hide hwas
                  have HR0 : Hid (Runs' m c was 0 (s.put m (enterT c))) := hide (by rw [hwas]; exact runs_start (T_put _ _ _))
                  clear hwas
                  go_wp2_with fail
                  refine HL.mono ?_
                  rintro e w2 ⟨rfl, hrow, hb2⟩
                  have HX3 := hide (HX2.out.on hb2)
                  clear HL hrow hb2 HX2
                  go_wp2_with fail
                  have hnt40 : nt ≤ 40 := by have := HLI.out.2.1; omega
                  go_loopw [15] (fun I w' => ∃ (i : Nat) (lv : Value) (s : WS), i ≤ 86 ∧ I = .int .i64 i ∧ Hid (WL p g gm P lv s (2700 + i * 91) V w') ∧ Hid (Runs' m c was i s)) (fun I _ => 86 - (intOf I).toNat)
                  case atStart => exact ⟨0, _, _, by omega, rfl, HX3, HR0⟩
                  case round =>
                    obtain ⟨i, lv1, s1, hi86, rfl, HX, HR⟩ := hrel
                    clear HX3 HR0
                    by_cases hl86 : i < 86
                    · have e86 : (i : Int) < 86 := by omega
                      have HPH := HX.out.phase (m : Int)
                      rw [phase_of hm] at HPH
                      by_cases hp0 : (s1.T m).phase = 0
                      · as_aux_lemma =>
                        rw [hp0] at HPH
                        have HDN := hide (show Done m c was s1 from ⟨HR.out.1, .inl hp0, runs_done HR.out (.inl hp0)⟩)
                        have hphz := hp0
                        clear hp0 HR
                        go_wp2_with fail
                        refine HPH.mono ?_
                        rintro e w' ⟨rfl, hw⟩
                        rw [hw]
                        clear hw HPH
                        have hone := HDN.out.one
                        obtain ⟨LL, hLL⟩ : ∃ x, x = s1.log.length := ⟨_, rfl⟩
                        have HL := HX.out.logs (by omega)
                        rw [← hLL] at HL
                        have HLLH := hide hLL
                        have hwl : was ≤ LL := by rw [hLL]; exact HDN.out.le
                        have hLk : LL ≤ 20000 := by rw [hLL]; have := HX.out.log; omega
                        clear hLL
                        go_wp2_with fail
                        refine HL.mono ?_
                        rintro e w3 ⟨rfl, hrow, hb3⟩
                        have HX4 := hide (HX.out.on hb3)
                        have HROW := hide hrow
                        clear HL hrow hb3
                        obtain ⟨r8, hr8⟩ : ∃ x, x = wr.heap.size := ⟨_, rfl⟩
                        rw [← hr8] at HROW
                        rw [← hr8]
                        clear hr8
                        have h0m : mineL m was (s1.log.take was) = [] := by
                          unfold mineL
                          rw [List.drop_eq_nil_of_le (by rw [List.length_take]; omega)]
                          rfl
                        go_wp2
                        go_loopw [19, 20] (fun M I w' => ∃ i : Nat, was ≤ i ∧ i ≤ LL ∧ I = .int .i64 i ∧ M = .int .i64 ((mineL m was (s1.log.take i)).length : Nat) ∧ Hid (Below w3.heap.size w3 w')) (fun _ I _ => LL - (intOf I).toNat)
                        case atStart => exact ⟨was, by omega, hwl, rfl, by rw [h0m]; rfl, hide (Below.refl _ _)⟩
                        case round =>
                          obtain ⟨j, hwj, hjl, rfl, rfl, HB⟩ := hrel
                          clear h0m
                          have HX5 := hide (HX4.out.on HB.out)
                          have hrow := (HB.out.block _ (Array.getElem?_eq_some_iff.1 HROW.out).1).trans HROW.out
                          by_cases hlj : j < LL
                          · as_aux_lemma =>
                            obtain ⟨en, hen⟩ : ∃ e, s1.log[j]? = some e := ⟨_, List.getElem?_eq_getElem (by rw [← HLLH.out]; exact hlj)⟩
                            have hst : mineL m was (s1.log.take (j + 1)) = mineL m was (s1.log.take j) ++ [en].filter fun e => e.thr == m := by
                              rw [List.take_add_one, hen]
                              exact mine_app m was _ _ (by rw [List.length_take, ← HLLH.out]; omega)
                            have a1 : wr.cell? ⟨r8, j * 21 + 1, none⟩ = some (.int .i64 (en.thr : Nat)) := log_cell hrow hen 1 (by omega) rfl
                            have t1 : (0 : Int) ≤ j := by omega
                            have t2 : (j : Int) < LL := by omega
                            by_cases hth : en.thr = m
                            · have hcall : en.call = c := by
                                obtain ⟨e1, hm1, hc1⟩ := hone
                                have hmem : en ∈ mineL m was s1.log := by
                                  unfold mineL
                                  rw [List.mem_filter]
                                  refine ⟨?_, by simpa using hth⟩
                                  rw [List.mem_iff_getElem?]
                                  exact ⟨j - was, by rw [List.getElem?_drop, show was + (j - was) = j by omega]; exact hen⟩
                                rw [hm1, List.mem_singleton] at hmem
                                rw [hmem]
                                exact hc1
                              have a2 : wr.cell? ⟨r8, j * 21 + 2, none⟩ = some (.int .u32 (c.arch : Nat)) := log_cell hrow hen 2 (by omega) (by rw [← hcall]; rfl)
                              have a3 : wr.cell? ⟨r8, j * 21 + 2 + 1, none⟩ = some (.int .u32 (c.nr : Nat)) := log_cell hrow hen 3 (by omega) (by rw [← hcall]; rfl)
                              have a4 : wr.cell? ⟨r8, j * 21 + 2 + 2, none⟩ = some (.int .u64 (c.a0 : Nat)) := log_cell hrow hen 4 (by omega) (by rw [← hcall]; rfl)
                              have a5 : wr.cell? ⟨r8, j * 21 + 2 + 3, none⟩ = some (.int .u64 (c.a1 : Nat)) := log_cell hrow hen 5 (by omega) (by rw [← hcall]; rfl)
                              have a6 : wr.cell? ⟨r8, j * 21 + 2 + 4, none⟩ = some (.int .u64 (c.a2 : Nat)) := log_cell hrow hen 6 (by omega) (by rw [← hcall]; rfl)
                              have a7 : wr.cell? ⟨r8, j * 21 + 2 + 5, none⟩ = some (.int .u64 (c.a3 : Nat)) := log_cell hrow hen 7 (by omega) (by rw [← hcall]; rfl)
                              have q0 := keep_cell HX5.out.below k0
                              have q1 := keep_cell HX5.out.below k1
                              have q2 := keep_cell HX5.out.below k2
                              have q3 := keep_cell HX5.out.below k3
                              have q4 := keep_cell HX5.out.below k4
                              have q5 := keep_cell HX5.out.below k5
                              have hcnt : (mineL m was (s1.log.take (j + 1))).length = (mineL m was (s1.log.take j)).length + 1 := by
                                rw [hst, List.length_append]
                                simp [hth]
                              have hle : (mineL m was (s1.log.take j)).length ≤ 20000 := by
                                unfold mineL
                                refine Nat.le_trans (List.length_filter_le _ _) ?_
                                rw [List.length_drop, List.length_take, ← HLLH.out]
                                omega
                              obtain ⟨cn, hcn⟩ : ∃ x, x = (mineL m was (s1.log.take j)).length := ⟨_, rfl⟩
                              rw [← hcn] at hcnt hle
                              simp only [← hcn]
                              have HCN := hide hcnt
                              rw [hth] at a1
                              clear hcnt hcn hth hcall hst hen hrow
                              replace a2 : wr.drew.cell? _ = _ := a2
                              replace a3 : wr.drew.cell? _ = _ := a3
                              replace a4 : wr.drew.cell? _ = _ := a4
                              replace a5 : wr.drew.cell? _ = _ := a5
                              replace a6 : wr.drew.cell? _ = _ := a6
                              replace a7 : wr.drew.cell? _ = _ := a7
                              replace q0 : wr.drew.cell? _ = _ := q0
                              replace q1 : wr.drew.cell? _ = _ := q1
                              replace q2 : wr.drew.cell? _ = _ := q2
                              replace q3 : wr.drew.cell? _ = _ := q3
                              replace q4 : wr.drew.cell? _ = _ := q4
                              replace q5 : wr.drew.cell? _ = _ := q5
                              go_wp2_with fail
                              refine wp_region_any (by kernel_rfl) ?_
                              change wpAny _ _ _ _ _ _ _ (World.drew _)
                              refine Gl.wpAny_takeOf 0 (some 142) (.slice (some ⟨r8, 0, none⟩) LL LL) rfl rfl (by kernel_rfl) (by kernel_rfl) (by kernel_rfl) (fun _ _ _ h => h) (Or.inl ⟨by rfl, ?_⟩) ?_
                              · intro wx
                                go_simp
                              try simp only [Act.put, List.setIfInBounds_toArray, List.set_cons_zero, List.set_cons_succ]
                              refine Gl.wpAny_takeOf 1 (some 143) (.int .i64 (j : Nat)) rfl rfl (by kernel_rfl) (by kernel_rfl) (by kernel_rfl) (fun _ _ _ h => h) (Or.inl ⟨by rfl, ?_⟩) ?_
                              · intro wx
                                go_simp
                              try simp only [Act.put, List.setIfInBounds_toArray, List.set_cons_zero, List.set_cons_succ]
                              refine Gl.wpAny_takeOf 2 (some 144) (Value.pointer (some ⟨r8, j * 21, none⟩)) rfl rfl (by kernel_rfl) (by kernel_rfl) (by kernel_rfl) (fun _ _ _ h => h) (Or.inl ⟨by rfl, ?_⟩) ?_
                              · intro wx
                                go_simp
                              try simp only [Act.put, List.setIfInBounds_toArray, List.set_cons_zero, List.set_cons_succ]
                              refine Gl.wpAny_takeOf 3 (some 145) (Value.pointer (some ⟨r8, j * 21 + 2, none⟩)) rfl rfl (by kernel_rfl) (by kernel_rfl) (by kernel_rfl) (fun _ _ _ h => h) (Or.inl ⟨by rfl, ?_⟩) ?_
                              · intro wx
                                go_simp
                              try simp only [Act.put, List.setIfInBounds_toArray, List.set_cons_zero, List.set_cons_succ]
                              refine wpAny_two (i := 4) (j := 5) (by kernel_rfl) rfl rfl rfl rfl (fun K hK => ?_) (fun K hK => ?_)
                              · go_simp
                                refine hK _ _ ?_
                                clear hK K
                                try simp only [Act.put, List.setIfInBounds_toArray, List.set_cons_zero, List.set_cons_succ]
                                refine Gl.wpAny_only (i := 5) (by kernel_rfl) rfl rfl (fun K hK => ?_)
                                go_simp
                                refine hK _ _ ?_
                                clear hK K
                                try simp only [Act.put, List.setIfInBounds_toArray, List.set_cons_zero, List.set_cons_succ]
                                refine Gl.wpAny_only (i := 6) (by kernel_rfl) rfl rfl (fun K hK => ?_)
                                refine wp_neq_self 40 _ _ _ rfl #[.int .u32 c.arch, .int .u32 c.nr, .int .u64 c.a0, .int .u64 c.a1, .int .u64 c.a2, .int .u64 c.a3] rfl rfl (run_eqGuard_agg _ _ _ _ _ _ _ (by kernel_rfl)) (neq_call c _) ?_
                                refine hK _ _ ?_
                                clear hK K
                                try simp only [Act.put, List.setIfInBounds_toArray, List.set_cons_zero, List.set_cons_succ]
                                refine wpAny_done (by kernel_rfl) ?_ _
                                go_wp2
                                go_round
                                case rel => exact ⟨j + 1, by omega, by omega, by go_num, by rw [HCN.out]; go_num, hide (below_next HB.out (Below.refl _ _).drew)⟩
                                case measure => simp [intOf]; omega
                              · go_simp
                                refine hK _ _ ?_
                                clear hK K
                                try simp only [Act.put, List.setIfInBounds_toArray, List.set_cons_zero, List.set_cons_succ]
                                refine Gl.wpAny_only (i := 4) (by kernel_rfl) rfl rfl (fun K hK => ?_)
                                go_simp
                                refine hK _ _ ?_
                                clear hK K
                                try simp only [Act.put, List.setIfInBounds_toArray, List.set_cons_zero, List.set_cons_succ]
                                refine Gl.wpAny_only (i := 6) (by kernel_rfl) rfl rfl (fun K hK => ?_)
                                refine wp_neq_self 40 _ _ _ rfl #[.int .u32 c.arch, .int .u32 c.nr, .int .u64 c.a0, .int .u64 c.a1, .int .u64 c.a2, .int .u64 c.a3] rfl rfl (run_eqGuard_agg _ _ _ _ _ _ _ (by kernel_rfl)) (neq_call c _) ?_
                                refine hK _ _ ?_
                                clear hK K
                                try simp only [Act.put, List.setIfInBounds_toArray, List.set_cons_zero, List.set_cons_succ]
                                refine wpAny_done (by kernel_rfl) ?_ _
                                go_wp2
                                go_round
                                case rel => exact ⟨j + 1, by omega, by omega, by go_num, by rw [HCN.out]; go_num, hide (below_next HB.out (Below.refl _ _).drew)⟩
                                case measure => simp [intOf]; omega
                            · have hcnt : mineL m was (s1.log.take (j + 1)) = mineL m was (s1.log.take j) := by
                                rw [hst]
                                simp [hth]
                              have HCN := hide hcnt
                              have hne : ((en.thr : Int) == (m : Int)) = false := by simp; omega
                              clear hcnt hst hen hrow hth
                              go_wp2
                              go_round
                              case rel => exact ⟨j + 1, by omega, by omega, by go_num, by rw [HCN.out], HB⟩
                              case measure => simp [intOf]; omega
                          · as_aux_lemma =>
                            have hfin : (mineL m was (s1.log.take j)).length = 1 := by
                              rw [List.take_of_length_le (by rw [← HLLH.out]; omega)]
                              obtain ⟨e1, hm1, _⟩ := hone
                              rw [hm1]
                              rfl
                            have t2 : ¬ ((j : Int) < LL) := by omega
                            rw [hfin]
                            have HPF := HX5.out.phase (m : Int)
                            rw [phase_of hm, hphz] at HPF
                            clear hfin hrow
                            go_wp2_with fail
                            refine HPF.mono ?_
                            rintro e w' ⟨rfl, hw⟩
                            rw [hw]
                            clear hw
                            go_wp2
                            go_ret
                            exact ⟨rfl, below_next HVB.out HX5.out.below⟩
                      · by_cases hp6 : (s1.T m).phase = 6
                        · as_aux_lemma =>
                          rw [hp6] at HPH
                          have HDN := hide (show Done m c was s1 from ⟨HR.out.1, .inr hp6, runs_done HR.out (.inr hp6)⟩)
                          have hphz := hp6
                          clear hp6 hp0 HR
                          go_wp2_with fail
                          refine HPH.mono ?_
                          rintro e w' ⟨rfl, hw⟩
                          rw [hw]
                          clear hw
                          go_wp2_with fail
                          refine HPH.mono ?_
                          rintro e w' ⟨rfl, hw⟩
                          rw [hw]
                          clear hw HPH
                          have hone := HDN.out.one
                          obtain ⟨LL, hLL⟩ : ∃ x, x = s1.log.length := ⟨_, rfl⟩
                          have HL := HX.out.logs (by omega)
                          rw [← hLL] at HL
                          have HLLH := hide hLL
                          have hwl : was ≤ LL := by rw [hLL]; exact HDN.out.le
                          have hLk : LL ≤ 20000 := by rw [hLL]; have := HX.out.log; omega
                          clear hLL
                          go_wp2_with fail
                          refine HL.mono ?_
                          rintro e w3 ⟨rfl, hrow, hb3⟩
                          have HX4 := hide (HX.out.on hb3)
                          have HROW := hide hrow
                          clear HL hrow hb3
                          obtain ⟨r8, hr8⟩ : ∃ x, x = wr.heap.size := ⟨_, rfl⟩
                          rw [← hr8] at HROW
                          rw [← hr8]
                          clear hr8
                          have h0m : mineL m was (s1.log.take was) = [] := by
                            unfold mineL
                            rw [List.drop_eq_nil_of_le (by rw [List.length_take]; omega)]
                            rfl
                          go_wp2
                          go_loopw [19, 20] (fun M I w' => ∃ i : Nat, was ≤ i ∧ i ≤ LL ∧ I = .int .i64 i ∧ M = .int .i64 ((mineL m was (s1.log.take i)).length : Nat) ∧ Hid (Below w3.heap.size w3 w')) (fun _ I _ => LL - (intOf I).toNat)
                          case atStart => exact ⟨was, by omega, hwl, rfl, by rw [h0m]; rfl, hide (Below.refl _ _)⟩
                          case round =>
                            obtain ⟨j, hwj, hjl, rfl, rfl, HB⟩ := hrel
                            clear h0m
                            have HX5 := hide (HX4.out.on HB.out)
                            have hrow := (HB.out.block _ (Array.getElem?_eq_some_iff.1 HROW.out).1).trans HROW.out
                            by_cases hlj : j < LL
                            · as_aux_lemma =>
                              obtain ⟨en, hen⟩ : ∃ e, s1.log[j]? = some e := ⟨_, List.getElem?_eq_getElem (by rw [← HLLH.out]; exact hlj)⟩
                              have hst : mineL m was (s1.log.take (j + 1)) = mineL m was (s1.log.take j) ++ [en].filter fun e => e.thr == m := by
                                rw [List.take_add_one, hen]
                                exact mine_app m was _ _ (by rw [List.length_take, ← HLLH.out]; omega)
                              have a1 : wr.cell? ⟨r8, j * 21 + 1, none⟩ = some (.int .i64 (en.thr : Nat)) := log_cell hrow hen 1 (by omega) rfl
                              have t1 : (0 : Int) ≤ j := by omega
                              have t2 : (j : Int) < LL := by omega
                              by_cases hth : en.thr = m
                              · have hcall : en.call = c := by
                                  obtain ⟨e1, hm1, hc1⟩ := hone
                                  have hmem : en ∈ mineL m was s1.log := by
                                    unfold mineL
                                    rw [List.mem_filter]
                                    refine ⟨?_, by simpa using hth⟩
                                    rw [List.mem_iff_getElem?]
                                    exact ⟨j - was, by rw [List.getElem?_drop, show was + (j - was) = j by omega]; exact hen⟩
                                  rw [hm1, List.mem_singleton] at hmem
                                  rw [hmem]
                                  exact hc1
                                have a2 : wr.cell? ⟨r8, j * 21 + 2, none⟩ = some (.int .u32 (c.arch : Nat)) := log_cell hrow hen 2 (by omega) (by rw [← hcall]; rfl)
                                have a3 : wr.cell? ⟨r8, j * 21 + 2 + 1, none⟩ = some (.int .u32 (c.nr : Nat)) := log_cell hrow hen 3 (by omega) (by rw [← hcall]; rfl)
                                have a4 : wr.cell? ⟨r8, j * 21 + 2 + 2, none⟩ = some (.int .u64 (c.a0 : Nat)) := log_cell hrow hen 4 (by omega) (by rw [← hcall]; rfl)
                                have a5 : wr.cell? ⟨r8, j * 21 + 2 + 3, none⟩ = some (.int .u64 (c.a1 : Nat)) := log_cell hrow hen 5 (by omega) (by rw [← hcall]; rfl)
                                have a6 : wr.cell? ⟨r8, j * 21 + 2 + 4, none⟩ = some (.int .u64 (c.a2 : Nat)) := log_cell hrow hen 6 (by omega) (by rw [← hcall]; rfl)
                                have a7 : wr.cell? ⟨r8, j * 21 + 2 + 5, none⟩ = some (.int .u64 (c.a3 : Nat)) := log_cell hrow hen 7 (by omega) (by rw [← hcall]; rfl)
                                have q0 := keep_cell HX5.out.below k0
                                have q1 := keep_cell HX5.out.below k1
                                have q2 := keep_cell HX5.out.below k2
                                have q3 := keep_cell HX5.out.below k3
                                have q4 := keep_cell HX5.out.below k4
                                have q5 := keep_cell HX5.out.below k5
                                have hcnt : (mineL m was (s1.log.take (j + 1))).length = (mineL m was (s1.log.take j)).length + 1 := by
                                  rw [hst, List.length_append]
                                  simp [hth]
                                have hle : (mineL m was (s1.log.take j)).length ≤ 20000 := by
                                  unfold mineL
                                  refine Nat.le_trans (List.length_filter_le _ _) ?_
                                  rw [List.length_drop, List.length_take, ← HLLH.out]
                                  omega
                                obtain ⟨cn, hcn⟩ : ∃ x, x = (mineL m was (s1.log.take j)).length := ⟨_, rfl⟩
                                rw [← hcn] at hcnt hle
                                simp only [← hcn]
                                have HCN := hide hcnt
                                rw [hth] at a1
                                clear hcnt hcn hth hcall hst hen hrow
                                replace a2 : wr.drew.cell? _ = _ := a2
                                replace a3 : wr.drew.cell? _ = _ := a3
                                replace a4 : wr.drew.cell? _ = _ := a4
                                replace a5 : wr.drew.cell? _ = _ := a5
                                replace a6 : wr.drew.cell? _ = _ := a6
                                replace a7 : wr.drew.cell? _ = _ := a7
                                replace q0 : wr.drew.cell? _ = _ := q0
                                replace q1 : wr.drew.cell? _ = _ := q1
                                replace q2 : wr.drew.cell? _ = _ := q2
                                replace q3 : wr.drew.cell? _ = _ := q3
                                replace q4 : wr.drew.cell? _ = _ := q4
                                replace q5 : wr.drew.cell? _ = _ := q5
                                go_wp2_with fail
                                refine wp_region_any (by kernel_rfl) ?_
                                change wpAny _ _ _ _ _ _ _ (World.drew _)
                                refine Gl.wpAny_takeOf 0 (some 142) (.slice (some ⟨r8, 0, none⟩) LL LL) rfl rfl (by kernel_rfl) (by kernel_rfl) (by kernel_rfl) (fun _ _ _ h => h) (Or.inl ⟨by rfl, ?_⟩) ?_
                                · intro wx
                                  go_simp
                                try simp only [Act.put, List.setIfInBounds_toArray, List.set_cons_zero, List.set_cons_succ]
                                refine Gl.wpAny_takeOf 1 (some 143) (.int .i64 (j : Nat)) rfl rfl (by kernel_rfl) (by kernel_rfl) (by kernel_rfl) (fun _ _ _ h => h) (Or.inl ⟨by rfl, ?_⟩) ?_
                                · intro wx
                                  go_simp
                                try simp only [Act.put, List.setIfInBounds_toArray, List.set_cons_zero, List.set_cons_succ]
                                refine Gl.wpAny_takeOf 2 (some 144) (Value.pointer (some ⟨r8, j * 21, none⟩)) rfl rfl (by kernel_rfl) (by kernel_rfl) (by kernel_rfl) (fun _ _ _ h => h) (Or.inl ⟨by rfl, ?_⟩) ?_
                                · intro wx
                                  go_simp
                                try simp only [Act.put, List.setIfInBounds_toArray, List.set_cons_zero, List.set_cons_succ]
                                refine Gl.wpAny_takeOf 3 (some 145) (Value.pointer (some ⟨r8, j * 21 + 2, none⟩)) rfl rfl (by kernel_rfl) (by kernel_rfl) (by kernel_rfl) (fun _ _ _ h => h) (Or.inl ⟨by rfl, ?_⟩) ?_
                                · intro wx
                                  go_simp
                                try simp only [Act.put, List.setIfInBounds_toArray, List.set_cons_zero, List.set_cons_succ]
                                refine wpAny_two (i := 4) (j := 5) (by kernel_rfl) rfl rfl rfl rfl (fun K hK => ?_) (fun K hK => ?_)
                                · go_simp
                                  refine hK _ _ ?_
                                  clear hK K
                                  try simp only [Act.put, List.setIfInBounds_toArray, List.set_cons_zero, List.set_cons_succ]
                                  refine Gl.wpAny_only (i := 5) (by kernel_rfl) rfl rfl (fun K hK => ?_)
                                  go_simp
                                  refine hK _ _ ?_
                                  clear hK K
                                  try simp only [Act.put, List.setIfInBounds_toArray, List.set_cons_zero, List.set_cons_succ]
                                  refine Gl.wpAny_only (i := 6) (by kernel_rfl) rfl rfl (fun K hK => ?_)
                                  refine wp_neq_self 40 _ _ _ rfl #[.int .u32 c.arch, .int .u32 c.nr, .int .u64 c.a0, .int .u64 c.a1, .int .u64 c.a2, .int .u64 c.a3] rfl rfl (run_eqGuard_agg _ _ _ _ _ _ _ (by kernel_rfl)) (neq_call c _) ?_
                                  refine hK _ _ ?_
                                  clear hK K
                                  try simp only [Act.put, List.setIfInBounds_toArray, List.set_cons_zero, List.set_cons_succ]
                                  refine wpAny_done (by kernel_rfl) ?_ _
                                  go_wp2
                                  go_round
                                  case rel => exact ⟨j + 1, by omega, by omega, by go_num, by rw [HCN.out]; go_num, hide (below_next HB.out (Below.refl _ _).drew)⟩
                                  case measure => simp [intOf]; omega
                                · go_simp
                                  refine hK _ _ ?_
                                  clear hK K
                                  try simp only [Act.put, List.setIfInBounds_toArray, List.set_cons_zero, List.set_cons_succ]
                                  refine Gl.wpAny_only (i := 4) (by kernel_rfl) rfl rfl (fun K hK => ?_)
                                  go_simp
                                  refine hK _ _ ?_
                                  clear hK K
                                  try simp only [Act.put, List.setIfInBounds_toArray, List.set_cons_zero, List.set_cons_succ]
                                  refine Gl.wpAny_only (i := 6) (by kernel_rfl) rfl rfl (fun K hK => ?_)
                                  refine wp_neq_self 40 _ _ _ rfl #[.int .u32 c.arch, .int .u32 c.nr, .int .u64 c.a0, .int .u64 c.a1, .int .u64 c.a2, .int .u64 c.a3] rfl rfl (run_eqGuard_agg _ _ _ _ _ _ _ (by kernel_rfl)) (neq_call c _) ?_
                                  refine hK _ _ ?_
                                  clear hK K
                                  try simp only [Act.put, List.setIfInBounds_toArray, List.set_cons_zero, List.set_cons_succ]
                                  refine wpAny_done (by kernel_rfl) ?_ _
                                  go_wp2
                                  go_round
                                  case rel => exact ⟨j + 1, by omega, by omega, by go_num, by rw [HCN.out]; go_num, hide (below_next HB.out (Below.refl _ _).drew)⟩
                                  case measure => simp [intOf]; omega
                              · have hcnt : mineL m was (s1.log.take (j + 1)) = mineL m was (s1.log.take j) := by
                                  rw [hst]
                                  simp [hth]
                                have HCN := hide hcnt
                                have hne : ((en.thr : Int) == (m : Int)) = false := by simp; omega
                                clear hcnt hst hen hrow hth
                                go_wp2
                                go_round
                                case rel => exact ⟨j + 1, by omega, by omega, by go_num, by rw [HCN.out], HB⟩
                                case measure => simp [intOf]; omega
                            · as_aux_lemma =>
                              have hfin : (mineL m was (s1.log.take j)).length = 1 := by
                                rw [List.take_of_length_le (by rw [← HLLH.out]; omega)]
                                obtain ⟨e1, hm1, _⟩ := hone
                                rw [hm1]
                                rfl
                              have t2 : ¬ ((j : Int) < LL) := by omega
                              rw [hfin]
                              have HPF := HX5.out.phase (m : Int)
                              rw [phase_of hm, hphz] at HPF
                              clear hfin hrow
                              go_wp2_with fail
                              refine HPF.mono ?_
                              rintro e w' ⟨rfl, hw⟩
                              rw [hw]
                              clear hw
                              go_wp2_with fail
                              refine HPF.mono ?_
                              rintro e w' ⟨rfl, hw⟩
                              rw [hw]
                              clear hw
                              go_wp2
                              go_ret
                              exact ⟨rfl, below_next HVB.out HX5.out.below⟩
                        · obtain ⟨ph, hph⟩ : ∃ x, x = (s1.T m).phase := ⟨_, rfl⟩
                          rw [← hph] at HPH hp0 hp6
                          have n0 : ¬ ((ph : Int) = 0) := by omega
                          have n6 : ¬ ((ph : Int) = 6) := by omega
                          have u0 : ((ph : Int) != 0) = true := by simp; omega
                          have u6 : ((ph : Int) != 6) = true := by simp; omega
                          have HS := HX.out.step hf HQ (by omega) (m : Int)
                          rw [stepW_run p hm (by rw [← hph]; exact hp0) (by rw [← hph]; exact hp6), errV_zero] at HS
                          have hle6 := (HX.out.inv.thr m hm).ph
                          have HRS := hide (runs_step hf HX.out.inv hm HR.out (by rw [← hph]; omega) (by omega))
                          simp only at HS
                          clear hp0 hp6 hph hle6 HR
                          go_wp2_with fail
                          refine HPH.mono ?_
                          rintro e w' ⟨rfl, hw⟩
                          rw [hw]
                          clear hw
                          go_wp2_with fail
                          refine HPH.mono ?_
                          rintro e w' ⟨rfl, hw⟩
                          rw [hw]
                          clear hw HPH
                          go_wp2_with fail
                          refine HS.mono ?_
                          rintro e w4 ⟨rfl, lv4, h4⟩
                          have HX4 := hide h4
                          clear HS h4
                          have t1 : (0 : Int) ≤ i := by omega
                          by_cases hit : i < nt
                          · have t2 : (i : Int) < nt := by omega
                            obtain ⟨b, off, rfl, hA⟩ := acts_at HTV.out HX4.out.below hit
                            have HD := HX4.out.did hf HQ (by omega) (T i) hA.cOk hA.aLt (HLI.out.2.2 i hit)
                            unfold acC at HD
                            have c0 := hA.k0
                            have c1 := hA.k1
                            have c2 := hA.k2
                            have c3 := hA.k3
                            have c4 := hA.k4
                            have c5 := hA.k5
                            have c6 := hA.k6
                            have c7 := hA.k7
                            have c8 := hA.k8
                            have c9 := hA.k9
                            have c10 := hA.k10
                            have HAP := hide (show (T i).n ≠ m → ((T i).kind.toList == [101, 110, 116, 101, 114]) = false → Runs' m c was (i + 1) (didS p (T i) (stepS p m s1)) from fun h1 h2 => runs_apart HRS.out (did_apart hf HQ HX4.out.inv h1 h2))
                            obtain ⟨x, hx⟩ : ∃ x, x = T i := ⟨_, rfl⟩
                            rw [← hx] at c0 c1 c2 c3 c4 c5 c6 c7 c8 c9 c10 HD HAP
                            clear hA hx
                            by_cases hxm : x.n = m
                            · rw [hxm] at c1
                              clear hxm HAP HD
                              go_wp2
                              go_round
                              case rel => exact ⟨i + 1, lv4, _, by omega, by go_num, hide (HX4.out.weak (by omega)), HRS⟩
                              case measure => simp [intOf]; omega
                            · have hxb : ¬ (x.n = (m : Int)) := hxm
                              cases hke : (x.kind.toList == [101, 110, 116, 101, 114]) with
                              | true =>
                                clear HAP HD
                                go_wp2
                                go_round
                                case rel => exact ⟨i + 1, lv4, _, by omega, by go_num, hide (HX4.out.weak (by omega)), HRS⟩
                                case measure => simp [intOf]; omega
                              | false =>
                                have HAQ := hide (HAP.out hxm hke)
                                clear HAP hxm
                                go_wp2_with fail
                                refine HD.mono ?_
                                rintro e w5 ⟨rfl, lv5, h5⟩
                                go_wp2
                                go_round
                                case rel => exact ⟨i + 1, lv5, _, by omega, by go_num, hide (h5.weak (by omega)), HAQ⟩
                                case measure => simp [intOf]; omega
                          · have t2 : ¬ ((i : Int) < nt) := by omega
                            clear hit
                            go_wp2
                            go_round
                            case rel => exact ⟨i + 1, lv4, _, by omega, by go_num, hide (HX4.out.weak (by omega)), HRS⟩
                            case measure => simp [intOf]; omega
                    · obtain rfl : i = 86 := by omega
                      have e86 : ¬ ((86 : Int) < 86) := by omega
                      have hend := runs_end HX.out.inv hm HR.out
                      have HDN := hide (show Done m c was s1 from ⟨HR.out.1, hend.1, hend.2⟩)
                      clear HR
                      rcases hend.1 with hphz | hphz
                      · as_aux_lemma =>
                        clear hend
                        have hone := HDN.out.one
                        obtain ⟨LL, hLL⟩ : ∃ x, x = s1.log.length := ⟨_, rfl⟩
                        have HL := HX.out.logs (by omega)
                        rw [← hLL] at HL
                        have HLLH := hide hLL
                        have hwl : was ≤ LL := by rw [hLL]; exact HDN.out.le
                        have hLk : LL ≤ 20000 := by rw [hLL]; have := HX.out.log; omega
                        clear hLL
                        go_wp2_with fail
                        refine HL.mono ?_
                        rintro e w3 ⟨rfl, hrow, hb3⟩
                        have HX4 := hide (HX.out.on hb3)
                        have HROW := hide hrow
                        clear HL hrow hb3
                        obtain ⟨r8, hr8⟩ : ∃ x, x = wr.heap.size := ⟨_, rfl⟩
                        rw [← hr8] at HROW
                        rw [← hr8]
                        clear hr8
                        have h0m : mineL m was (s1.log.take was) = [] := by
                          unfold mineL
                          rw [List.drop_eq_nil_of_le (by rw [List.length_take]; omega)]
                          rfl
                        go_wp2
                        go_loopw [19, 20] (fun M I w' => ∃ i : Nat, was ≤ i ∧ i ≤ LL ∧ I = .int .i64 i ∧ M = .int .i64 ((mineL m was (s1.log.take i)).length : Nat) ∧ Hid (Below w3.heap.size w3 w')) (fun _ I _ => LL - (intOf I).toNat)
                        case atStart => exact ⟨was, by omega, hwl, rfl, by rw [h0m]; rfl, hide (Below.refl _ _)⟩
                        case round =>
                          obtain ⟨j, hwj, hjl, rfl, rfl, HB⟩ := hrel
                          clear h0m
                          have HX5 := hide (HX4.out.on HB.out)
                          have hrow := (HB.out.block _ (Array.getElem?_eq_some_iff.1 HROW.out).1).trans HROW.out
                          by_cases hlj : j < LL
                          · as_aux_lemma =>
                            obtain ⟨en, hen⟩ : ∃ e, s1.log[j]? = some e := ⟨_, List.getElem?_eq_getElem (by rw [← HLLH.out]; exact hlj)⟩
                            have hst : mineL m was (s1.log.take (j + 1)) = mineL m was (s1.log.take j) ++ [en].filter fun e => e.thr == m := by
                              rw [List.take_add_one, hen]
                              exact mine_app m was _ _ (by rw [List.length_take, ← HLLH.out]; omega)
                            have a1 : wr.cell? ⟨r8, j * 21 + 1, none⟩ = some (.int .i64 (en.thr : Nat)) := log_cell hrow hen 1 (by omega) rfl
                            have t1 : (0 : Int) ≤ j := by omega
                            have t2 : (j : Int) < LL := by omega
                            by_cases hth : en.thr = m
                            · have hcall : en.call = c := by
                                obtain ⟨e1, hm1, hc1⟩ := hone
                                have hmem : en ∈ mineL m was s1.log := by
                                  unfold mineL
                                  rw [List.mem_filter]
                                  refine ⟨?_, by simpa using hth⟩
                                  rw [List.mem_iff_getElem?]
                                  exact ⟨j - was, by rw [List.getElem?_drop, show was + (j - was) = j by omega]; exact hen⟩
                                rw [hm1, List.mem_singleton] at hmem
                                rw [hmem]
                                exact hc1
                              have a2 : wr.cell? ⟨r8, j * 21 + 2, none⟩ = some (.int .u32 (c.arch : Nat)) := log_cell hrow hen 2 (by omega) (by rw [← hcall]; rfl)
                              have a3 : wr.cell? ⟨r8, j * 21 + 2 + 1, none⟩ = some (.int .u32 (c.nr : Nat)) := log_cell hrow hen 3 (by omega) (by rw [← hcall]; rfl)
                              have a4 : wr.cell? ⟨r8, j * 21 + 2 + 2, none⟩ = some (.int .u64 (c.a0 : Nat)) := log_cell hrow hen 4 (by omega) (by rw [← hcall]; rfl)
                              have a5 : wr.cell? ⟨r8, j * 21 + 2 + 3, none⟩ = some (.int .u64 (c.a1 : Nat)) := log_cell hrow hen 5 (by omega) (by rw [← hcall]; rfl)
                              have a6 : wr.cell? ⟨r8, j * 21 + 2 + 4, none⟩ = some (.int .u64 (c.a2 : Nat)) := log_cell hrow hen 6 (by omega) (by rw [← hcall]; rfl)
                              have a7 : wr.cell? ⟨r8, j * 21 + 2 + 5, none⟩ = some (.int .u64 (c.a3 : Nat)) := log_cell hrow hen 7 (by omega) (by rw [← hcall]; rfl)
                              have q0 := keep_cell HX5.out.below k0
                              have q1 := keep_cell HX5.out.below k1
                              have q2 := keep_cell HX5.out.below k2
                              have q3 := keep_cell HX5.out.below k3
                              have q4 := keep_cell HX5.out.below k4
                              have q5 := keep_cell HX5.out.below k5
                              have hcnt : (mineL m was (s1.log.take (j + 1))).length = (mineL m was (s1.log.take j)).length + 1 := by
                                rw [hst, List.length_append]
                                simp [hth]
                              have hle : (mineL m was (s1.log.take j)).length ≤ 20000 := by
                                unfold mineL
                                refine Nat.le_trans (List.length_filter_le _ _) ?_
                                rw [List.length_drop, List.length_take, ← HLLH.out]
                                omega
                              obtain ⟨cn, hcn⟩ : ∃ x, x = (mineL m was (s1.log.take j)).length := ⟨_, rfl⟩
                              rw [← hcn] at hcnt hle
                              simp only [← hcn]
                              have HCN := hide hcnt
                              rw [hth] at a1
                              clear hcnt hcn hth hcall hst hen hrow
                              replace a2 : wr.drew.cell? _ = _ := a2
                              replace a3 : wr.drew.cell? _ = _ := a3
                              replace a4 : wr.drew.cell? _ = _ := a4
                              replace a5 : wr.drew.cell? _ = _ := a5
                              replace a6 : wr.drew.cell? _ = _ := a6
                              replace a7 : wr.drew.cell? _ = _ := a7
                              replace q0 : wr.drew.cell? _ = _ := q0
                              replace q1 : wr.drew.cell? _ = _ := q1
                              replace q2 : wr.drew.cell? _ = _ := q2
                              replace q3 : wr.drew.cell? _ = _ := q3
                              replace q4 : wr.drew.cell? _ = _ := q4
                              replace q5 : wr.drew.cell? _ = _ := q5
                              go_wp2_with fail
                              refine wp_region_any (by kernel_rfl) ?_
                              change wpAny _ _ _ _ _ _ _ (World.drew _)
                              refine Gl.wpAny_takeOf 0 (some 142) (.slice (some ⟨r8, 0, none⟩) LL LL) rfl rfl (by kernel_rfl) (by kernel_rfl) (by kernel_rfl) (fun _ _ _ h => h) (Or.inl ⟨by rfl, ?_⟩) ?_
                              · intro wx
                                go_simp
                              try simp only [Act.put, List.setIfInBounds_toArray, List.set_cons_zero, List.set_cons_succ]
                              refine Gl.wpAny_takeOf 1 (some 143) (.int .i64 (j : Nat)) rfl rfl (by kernel_rfl) (by kernel_rfl) (by kernel_rfl) (fun _ _ _ h => h) (Or.inl ⟨by rfl, ?_⟩) ?_
                              · intro wx
                                go_simp
                              try simp only [Act.put, List.setIfInBounds_toArray, List.set_cons_zero, List.set_cons_succ]
                              refine Gl.wpAny_takeOf 2 (some 144) (Value.pointer (some ⟨r8, j * 21, none⟩)) rfl rfl (by kernel_rfl) (by kernel_rfl) (by kernel_rfl) (fun _ _ _ h => h) (Or.inl ⟨by rfl, ?_⟩) ?_
                              · intro wx
                                go_simp
                              try simp only [Act.put, List.setIfInBounds_toArray, List.set_cons_zero, List.set_cons_succ]
                              refine Gl.wpAny_takeOf 3 (some 145) (Value.pointer (some ⟨r8, j * 21 + 2, none⟩)) rfl rfl (by kernel_rfl) (by kernel_rfl) (by kernel_rfl) (fun _ _ _ h => h) (Or.inl ⟨by rfl, ?_⟩) ?_
                              · intro wx
                                go_simp
                              try simp only [Act.put, List.setIfInBounds_toArray, List.set_cons_zero, List.set_cons_succ]
                              refine wpAny_two (i := 4) (j := 5) (by kernel_rfl) rfl rfl rfl rfl (fun K hK => ?_) (fun K hK => ?_)
                              · go_simp
                                refine hK _ _ ?_
                                clear hK K
                                try simp only [Act.put, List.setIfInBounds_toArray, List.set_cons_zero, List.set_cons_succ]
                                refine Gl.wpAny_only (i := 5) (by kernel_rfl) rfl rfl (fun K hK => ?_)
                                go_simp
                                refine hK _ _ ?_
                                clear hK K
                                try simp only [Act.put, List.setIfInBounds_toArray, List.set_cons_zero, List.set_cons_succ]
                                refine Gl.wpAny_only (i := 6) (by kernel_rfl) rfl rfl (fun K hK => ?_)
                                refine wp_neq_self 40 _ _ _ rfl #[.int .u32 c.arch, .int .u32 c.nr, .int .u64 c.a0, .int .u64 c.a1, .int .u64 c.a2, .int .u64 c.a3] rfl rfl (run_eqGuard_agg _ _ _ _ _ _ _ (by kernel_rfl)) (neq_call c _) ?_
                                refine hK _ _ ?_
                                clear hK K
                                try simp only [Act.put, List.setIfInBounds_toArray, List.set_cons_zero, List.set_cons_succ]
                                refine wpAny_done (by kernel_rfl) ?_ _
                                go_wp2
                                go_round
                                case rel => exact ⟨j + 1, by omega, by omega, by go_num, by rw [HCN.out]; go_num, hide (below_next HB.out (Below.refl _ _).drew)⟩
                                case measure => simp [intOf]; omega
                              · go_simp
                                refine hK _ _ ?_
                                clear hK K
                                try simp only [Act.put, List.setIfInBounds_toArray, List.set_cons_zero, List.set_cons_succ]
                                refine Gl.wpAny_only (i := 4) (by kernel_rfl) rfl rfl (fun K hK => ?_)
                                go_simp
                                refine hK _ _ ?_
                                clear hK K
                                try simp only [Act.put, List.setIfInBounds_toArray, List.set_cons_zero, List.set_cons_succ]
                                refine Gl.wpAny_only (i := 6) (by kernel_rfl) rfl rfl (fun K hK => ?_)
                                refine wp_neq_self 40 _ _ _ rfl #[.int .u32 c.arch, .int .u32 c.nr, .int .u64 c.a0, .int .u64 c.a1, .int .u64 c.a2, .int .u64 c.a3] rfl rfl (run_eqGuard_agg _ _ _ _ _ _ _ (by kernel_rfl)) (neq_call c _) ?_
                                refine hK _ _ ?_
                                clear hK K
                                try simp only [Act.put, List.setIfInBounds_toArray, List.set_cons_zero, List.set_cons_succ]
                                refine wpAny_done (by kernel_rfl) ?_ _
                                go_wp2
                                go_round
                                case rel => exact ⟨j + 1, by omega, by omega, by go_num, by rw [HCN.out]; go_num, hide (below_next HB.out (Below.refl _ _).drew)⟩
                                case measure => simp [intOf]; omega
                            · have hcnt : mineL m was (s1.log.take (j + 1)) = mineL m was (s1.log.take j) := by
                                rw [hst]
                                simp [hth]
                              have HCN := hide hcnt
                              have hne : ((en.thr : Int) == (m : Int)) = false := by simp; omega
                              clear hcnt hst hen hrow hth
                              go_wp2
                              go_round
                              case rel => exact ⟨j + 1, by omega, by omega, by go_num, by rw [HCN.out], HB⟩
                              case measure => simp [intOf]; omega
                          · as_aux_lemma =>
                            have hfin : (mineL m was (s1.log.take j)).length = 1 := by
                              rw [List.take_of_length_le (by rw [← HLLH.out]; omega)]
                              obtain ⟨e1, hm1, _⟩ := hone
                              rw [hm1]
                              rfl
                            have t2 : ¬ ((j : Int) < LL) := by omega
                            rw [hfin]
                            have HPF := HX5.out.phase (m : Int)
                            rw [phase_of hm, hphz] at HPF
                            clear hfin hrow
                            go_wp2_with fail
                            refine HPF.mono ?_
                            rintro e w' ⟨rfl, hw⟩
                            rw [hw]
                            clear hw
                            go_wp2
                            go_ret
                            exact ⟨rfl, below_next HVB.out HX5.out.below⟩
                      · as_aux_lemma =>
                        clear hend
                        have hone := HDN.out.one
                        obtain ⟨LL, hLL⟩ : ∃ x, x = s1.log.length := ⟨_, rfl⟩
                        have HL := HX.out.logs (by omega)
                        rw [← hLL] at HL
                        have HLLH := hide hLL
                        have hwl : was ≤ LL := by rw [hLL]; exact HDN.out.le
                        have hLk : LL ≤ 20000 := by rw [hLL]; have := HX.out.log; omega
                        clear hLL
                        go_wp2_with fail
                        refine HL.mono ?_
                        rintro e w3 ⟨rfl, hrow, hb3⟩
                        have HX4 := hide (HX.out.on hb3)
                        have HROW := hide hrow
                        clear HL hrow hb3
                        obtain ⟨r8, hr8⟩ : ∃ x, x = wr.heap.size := ⟨_, rfl⟩
                        rw [← hr8] at HROW
                        rw [← hr8]
                        clear hr8
                        have h0m : mineL m was (s1.log.take was) = [] := by
                          unfold mineL
                          rw [List.drop_eq_nil_of_le (by rw [List.length_take]; omega)]
                          rfl
                        go_wp2
                        go_loopw [19, 20] (fun M I w' => ∃ i : Nat, was ≤ i ∧ i ≤ LL ∧ I = .int .i64 i ∧ M = .int .i64 ((mineL m was (s1.log.take i)).length : Nat) ∧ Hid (Below w3.heap.size w3 w')) (fun _ I _ => LL - (intOf I).toNat)
                        case atStart => exact ⟨was, by omega, hwl, rfl, by rw [h0m]; rfl, hide (Below.refl _ _)⟩
                        case round =>
                          obtain ⟨j, hwj, hjl, rfl, rfl, HB⟩ := hrel
                          clear h0m
                          have HX5 := hide (HX4.out.on HB.out)
                          have hrow := (HB.out.block _ (Array.getElem?_eq_some_iff.1 HROW.out).1).trans HROW.out
                          by_cases hlj : j < LL
                          · as_aux_lemma =>
                            obtain ⟨en, hen⟩ : ∃ e, s1.log[j]? = some e := ⟨_, List.getElem?_eq_getElem (by rw [← HLLH.out]; exact hlj)⟩
                            have hst : mineL m was (s1.log.take (j + 1)) = mineL m was (s1.log.take j) ++ [en].filter fun e => e.thr == m := by
                              rw [List.take_add_one, hen]
                              exact mine_app m was _ _ (by rw [List.length_take, ← HLLH.out]; omega)
                            have a1 : wr.cell? ⟨r8, j * 21 + 1, none⟩ = some (.int .i64 (en.thr : Nat)) := log_cell hrow hen 1 (by omega) rfl
                            have t1 : (0 : Int) ≤ j := by omega
                            have t2 : (j : Int) < LL := by omega
                            by_cases hth : en.thr = m
                            · have hcall : en.call = c := by
                                obtain ⟨e1, hm1, hc1⟩ := hone
                                have hmem : en ∈ mineL m was s1.log := by
                                  unfold mineL
                                  rw [List.mem_filter]
                                  refine ⟨?_, by simpa using hth⟩
                                  rw [List.mem_iff_getElem?]
                                  exact ⟨j - was, by rw [List.getElem?_drop, show was + (j - was) = j by omega]; exact hen⟩
                                rw [hm1, List.mem_singleton] at hmem
                                rw [hmem]
                                exact hc1
                              have a2 : wr.cell? ⟨r8, j * 21 + 2, none⟩ = some (.int .u32 (c.arch : Nat)) := log_cell hrow hen 2 (by omega) (by rw [← hcall]; rfl)
                              have a3 : wr.cell? ⟨r8, j * 21 + 2 + 1, none⟩ = some (.int .u32 (c.nr : Nat)) := log_cell hrow hen 3 (by omega) (by rw [← hcall]; rfl)
                              have a4 : wr.cell? ⟨r8, j * 21 + 2 + 2, none⟩ = some (.int .u64 (c.a0 : Nat)) := log_cell hrow hen 4 (by omega) (by rw [← hcall]; rfl)
                              have a5 : wr.cell? ⟨r8, j * 21 + 2 + 3, none⟩ = some (.int .u64 (c.a1 : Nat)) := log_cell hrow hen 5 (by omega) (by rw [← hcall]; rfl)
                              have a6 : wr.cell? ⟨r8, j * 21 + 2 + 4, none⟩ = some (.int .u64 (c.a2 : Nat)) := log_cell hrow hen 6 (by omega) (by rw [← hcall]; rfl)
                              have a7 : wr.cell? ⟨r8, j * 21 + 2 + 5, none⟩ = some (.int .u64 (c.a3 : Nat)) := log_cell hrow hen 7 (by omega) (by rw [← hcall]; rfl)
                              have q0 := keep_cell HX5.out.below k0
                              have q1 := keep_cell HX5.out.below k1
                              have q2 := keep_cell HX5.out.below k2
                              have q3 := keep_cell HX5.out.below k3
                              have q4 := keep_cell HX5.out.below k4
                              have q5 := keep_cell HX5.out.below k5
                              have hcnt : (mineL m was (s1.log.take (j + 1))).length = (mineL m was (s1.log.take j)).length + 1 := by
                                rw [hst, List.length_append]
                                simp [hth]
                              have hle : (mineL m was (s1.log.take j)).length ≤ 20000 := by
                                unfold mineL
                                refine Nat.le_trans (List.length_filter_le _ _) ?_
                                rw [List.length_drop, List.length_take, ← HLLH.out]
                                omega
                              obtain ⟨cn, hcn⟩ : ∃ x, x = (mineL m was (s1.log.take j)).length := ⟨_, rfl⟩
                              rw [← hcn] at hcnt hle
                              simp only [← hcn]
                              have HCN := hide hcnt
                              rw [hth] at a1
                              clear hcnt hcn hth hcall hst hen hrow
                              replace a2 : wr.drew.cell? _ = _ := a2
                              replace a3 : wr.drew.cell? _ = _ := a3
                              replace a4 : wr.drew.cell? _ = _ := a4
                              replace a5 : wr.drew.cell? _ = _ := a5
                              replace a6 : wr.drew.cell? _ = _ := a6
                              replace a7 : wr.drew.cell? _ = _ := a7
                              replace q0 : wr.drew.cell? _ = _ := q0
                              replace q1 : wr.drew.cell? _ = _ := q1
                              replace q2 : wr.drew.cell? _ = _ := q2
                              replace q3 : wr.drew.cell? _ = _ := q3
                              replace q4 : wr.drew.cell? _ = _ := q4
                              replace q5 : wr.drew.cell? _ = _ := q5
                              go_wp2_with fail
                              refine wp_region_any (by kernel_rfl) ?_
                              change wpAny _ _ _ _ _ _ _ (World.drew _)
                              refine Gl.wpAny_takeOf 0 (some 142) (.slice (some ⟨r8, 0, none⟩) LL LL) rfl rfl (by kernel_rfl) (by kernel_rfl) (by kernel_rfl) (fun _ _ _ h => h) (Or.inl ⟨by rfl, ?_⟩) ?_
                              · intro wx
                                go_simp
                              try simp only [Act.put, List.setIfInBounds_toArray, List.set_cons_zero, List.set_cons_succ]
                              refine Gl.wpAny_takeOf 1 (some 143) (.int .i64 (j : Nat)) rfl rfl (by kernel_rfl) (by kernel_rfl) (by kernel_rfl) (fun _ _ _ h => h) (Or.inl ⟨by rfl, ?_⟩) ?_
                              · intro wx
                                go_simp
                              try simp only [Act.put, List.setIfInBounds_toArray, List.set_cons_zero, List.set_cons_succ]
                              refine Gl.wpAny_takeOf 2 (some 144) (Value.pointer (some ⟨r8, j * 21, none⟩)) rfl rfl (by kernel_rfl) (by kernel_rfl) (by kernel_rfl) (fun _ _ _ h => h) (Or.inl ⟨by rfl, ?_⟩) ?_
                              · intro wx
                                go_simp
                              try simp only [Act.put, List.setIfInBounds_toArray, List.set_cons_zero, List.set_cons_succ]
                              refine Gl.wpAny_takeOf 3 (some 145) (Value.pointer (some ⟨r8, j * 21 + 2, none⟩)) rfl rfl (by kernel_rfl) (by kernel_rfl) (by kernel_rfl) (fun _ _ _ h => h) (Or.inl ⟨by rfl, ?_⟩) ?_
                              · intro wx
                                go_simp
                              try simp only [Act.put, List.setIfInBounds_toArray, List.set_cons_zero, List.set_cons_succ]
                              refine wpAny_two (i := 4) (j := 5) (by kernel_rfl) rfl rfl rfl rfl (fun K hK => ?_) (fun K hK => ?_)
                              · go_simp
                                refine hK _ _ ?_
                                clear hK K
                                try simp only [Act.put, List.setIfInBounds_toArray, List.set_cons_zero, List.set_cons_succ]
                                refine Gl.wpAny_only (i := 5) (by kernel_rfl) rfl rfl (fun K hK => ?_)
                                go_simp
                                refine hK _ _ ?_
                                clear hK K
                                try simp only [Act.put, List.setIfInBounds_toArray, List.set_cons_zero, List.set_cons_succ]
                                refine Gl.wpAny_only (i := 6) (by kernel_rfl) rfl rfl (fun K hK => ?_)
                                refine wp_neq_self 40 _ _ _ rfl #[.int .u32 c.arch, .int .u32 c.nr, .int .u64 c.a0, .int .u64 c.a1, .int .u64 c.a2, .int .u64 c.a3] rfl rfl (run_eqGuard_agg _ _ _ _ _ _ _ (by kernel_rfl)) (neq_call c _) ?_
                                refine hK _ _ ?_
                                clear hK K
                                try simp only [Act.put, List.setIfInBounds_toArray, List.set_cons_zero, List.set_cons_succ]
                                refine wpAny_done (by kernel_rfl) ?_ _
                                go_wp2
                                go_round
                                case rel => exact ⟨j + 1, by omega, by omega, by go_num, by rw [HCN.out]; go_num, hide (below_next HB.out (Below.refl _ _).drew)⟩
                                case measure => simp [intOf]; omega
                              · go_simp
                                refine hK _ _ ?_
                                clear hK K
                                try simp only [Act.put, List.setIfInBounds_toArray, List.set_cons_zero, List.set_cons_succ]
                                refine Gl.wpAny_only (i := 4) (by kernel_rfl) rfl rfl (fun K hK => ?_)
                                go_simp
                                refine hK _ _ ?_
                                clear hK K
                                try simp only [Act.put, List.setIfInBounds_toArray, List.set_cons_zero, List.set_cons_succ]
                                refine Gl.wpAny_only (i := 6) (by kernel_rfl) rfl rfl (fun K hK => ?_)
                                refine wp_neq_self 40 _ _ _ rfl #[.int .u32 c.arch, .int .u32 c.nr, .int .u64 c.a0, .int .u64 c.a1, .int .u64 c.a2, .int .u64 c.a3] rfl rfl (run_eqGuard_agg _ _ _ _ _ _ _ (by kernel_rfl)) (neq_call c _) ?_
                                refine hK _ _ ?_
                                clear hK K
                                try simp only [Act.put, List.setIfInBounds_toArray, List.set_cons_zero, List.set_cons_succ]
                                refine wpAny_done (by kernel_rfl) ?_ _
                                go_wp2
                                go_round
                                case rel => exact ⟨j + 1, by omega, by omega, by go_num, by rw [HCN.out]; go_num, hide (below_next HB.out (Below.refl _ _).drew)⟩
                                case measure => simp [intOf]; omega
                            · have hcnt : mineL m was (s1.log.take (j + 1)) = mineL m was (s1.log.take j) := by
                                rw [hst]
                                simp [hth]
                              have HCN := hide hcnt
                              have hne : ((en.thr : Int) == (m : Int)) = false := by simp; omega
                              clear hcnt hst hen hrow hth
                              go_wp2
                              go_round
                              case rel => exact ⟨j + 1, by omega, by omega, by go_num, by rw [HCN.out], HB⟩
                              case measure => simp [intOf]; omega
                          · as_aux_lemma =>
                            have hfin : (mineL m was (s1.log.take j)).length = 1 := by
                              rw [List.take_of_length_le (by rw [← HLLH.out]; omega)]
                              obtain ⟨e1, hm1, _⟩ := hone
                              rw [hm1]
                              rfl
                            have t2 : ¬ ((j : Int) < LL) := by omega
                            rw [hfin]
                            have HPF := HX5.out.phase (m : Int)
                            rw [phase_of hm, hphz] at HPF
                            clear hfin hrow
                            go_wp2_with fail
                            refine HPF.mono ?_
                            rintro e w' ⟨rfl, hw⟩
                            rw [hw]
                            clear hw
                            go_wp2_with fail
                            refine HPF.mono ?_
                            rintro e w' ⟨rfl, hw⟩
                            rw [hw]
                            clear hw
                            go_wp2
                            go_ret
                            exact ⟨rfl, below_next HVB.out HX5.out.below⟩
                · as_aux_lemma =>
                  rw [errV_pos he] at HE
                  obtain ⟨f, hfe⟩ : ∃ f, f = (enterW m c s).2 := ⟨_, rfl⟩
                  rw [← hfe] at HE
                  clear he hfe hn
                  go_wp2_with fail
                  refine HE.mono ?_
                  rintro e w1 ⟨rfl, h1⟩
                  go_wp2
                  go_ret
                  exact ⟨rfl, below_next HVB.out h1.below⟩
              · as_aux_lemma =>
                rcases show n < 0 ∨ (¬ n < 0 ∧ 3 ≤ n) by omega with h0 | ⟨h0, h3⟩
                · clear hn
                  go_wp2
                  go_ret
                  exact ⟨rfl, below_next HVB.out HX1.out.below⟩
                · clear hn
                  go_wp2
                  go_ret
                  exact ⟨rfl, below_next HVB.out HX1.out.below⟩
        · as_aux_lemma =>
          have HN := HNE hf W1 H1.out
          rw [errV_pos hf] at HN
          clear HNE HNO HPQ HLB HLT hlb hlt hf
          go_wp2_with fail
          refine HN.mono ?_
          rintro e W3 ⟨rfl, hb3⟩
          go_wp2
          go_ret
          exact ⟨rfl, below_next (below_next HVB.out H1.out) hb3⟩
end Go.Proofs.YtlgghomjlhnijaaGreat

/- The last step of a law's row: what 'post' asks, out of 'Below' (nothing that was there has turned), without the limb on frozen cells that 'again' alone wants. -/
namespace Go.Proofs.YtlgghomjlhnijaaGreat
open Go.ChangeShapes Go.WideShapes Go.ChangeAt Go.RowKit

theorem post_law {H : Type} {enc : TypeId × Value → H} {P : Program} {f : Func} {s : ChangeSpec} {apart fresh handsOn : Bool} {W W' : World} {args : Array Value} {v : Value} {ds gs : List (DataW H)} {before pa pv : List MemPlace}
    (hW : DataW.Whole enc P f.params.toList s.vars apart W args.toList ds gs before)
    (hres : ∀ (b : Nat) (sp : Nat → Bool) (hd : Bool), DataW.TrodAll enc P W' b sp hd f.resultTypes.toList (v.resultList f.resultTypes.size) (s.fn H (ds ++ gs)).results [])
    (hargs : ∀ sp : Nat → Bool, (∀ p ∈ before, sp p.block = true) → DataW.TrodAll enc P W' 0 sp true f.params.toList args.toList (s.fn H (ds ++ gs)).args pa)
    (hvars : ∀ sp : Nat → Bool, (∀ p ∈ before, sp p.block = true) → DataW.TrodVars enc P W' sp s.vars (s.fn H (ds ++ gs)).vars pv)
    (hps : before = pa ++ pv) (hk : Below W.heap.size W W') :
    s.post enc P f apart fresh handsOn false W args v W' := by
  have hold : ∀ p ∈ before, (fun b => decide (b < W.heap.size)) p.block = true := fun p hp => by simpa using hW.lt p hp
  refine ⟨ds, gs, before, [], pa, pv, hW, hres _ _ _, hargs _ hold, hvars _ hold, World.keptBut_mono (fun p hp => ⟨hp, ?_⟩) (hk.frame (· ∈ before)), fun h => by cases h⟩
  rw [hps, List.mem_append] at hp
  exact Or.inr hp
end Go.Proofs.YtlgghomjlhnijaaGreat

/- What the rows over slices of structs need besides: the last step, and cells of elements. -/
namespace Go.Proofs.YtlgghomjlhnijaaGreat
open Go.ChangeShapes Go.WideShapes Go.ChangeAt Go.RowKit Go.WideMaps Go.WideElems

theorem own : ownKnob Tryz.prog.godebug = none := by kernel_rfl
theorem laidOut : laidOutB Tryz.prog = true := by kernel_rfl

/-- 'post_law', the arguments read again under the one mode that is asked. -/
theorem post_law' {H : Type} {enc : TypeId × Value → H} {P : Program} {f : Func} {s : ChangeSpec} {apart fresh handsOn : Bool} {W W' : World} {args : Array Value} {v : Value} {ds gs : List (DataW H)} {before pa pv : List MemPlace}
    (hW : DataW.Whole enc P f.params.toList s.vars apart W args.toList ds gs before)
    (hres : ∀ (b : Nat) (sp : Nat → Bool) (hd : Bool), DataW.TrodAll enc P W' b sp hd f.resultTypes.toList (v.resultList f.resultTypes.size) (s.fn H (ds ++ gs)).results [])
    (hargs : DataW.TrodAll enc P W' 0 (fun b => decide (b < W.heap.size)) true f.params.toList args.toList (s.fn H (ds ++ gs)).args pa)
    (hvars : ∀ sp : Nat → Bool, (∀ p ∈ before, sp p.block = true) → DataW.TrodVars enc P W' sp s.vars (s.fn H (ds ++ gs)).vars pv)
    (hps : before = pa ++ pv) (hk : Below W.heap.size W W') :
    s.post enc P f apart fresh handsOn false W args v W' := by
  have hold : ∀ p ∈ before, (fun b => decide (b < W.heap.size)) p.block = true := fun p hp => by simpa using hW.lt p hp
  refine ⟨ds, gs, before, [], pa, pv, hW, hres _ _ _, hargs, hvars _ hold, World.keptBut_mono (fun p hp => ⟨hp, ?_⟩) (hk.frame (· ∈ before)), fun h => by cases h⟩
  rw [hps, List.mem_append] at hp
  exact Or.inr hp

theorem u64_wf {n : Int} (h : (Lit.int .u64 n).wf = true) : ∃ k : Nat, n = k ∧ k < 18446744073709551616 := by
  simp [Lit.wf, IntKind.min, IntKind.max, IntKind.signed, IntKind.bits] at h
  exact ⟨n.toNat, by omega, by omega⟩
theorem i64_wf {n : Int} (h : (Lit.int .i64 n).wf = true) : -9223372036854775808 ≤ n ∧ n ≤ 9223372036854775807 := by
  simp [Lit.wf, IntKind.min, IntKind.max, IntKind.signed, IntKind.bits] at h
  omega

theorem u32_wf {n : Int} (h : (Lit.int .u32 n).wf = true) : ∃ k : Nat, n = k ∧ k < 4294967296 := by
  simp [Lit.wf, IntKind.min, IntKind.max, IntKind.signed, IntKind.bits] at h
  exact ⟨n.toNat, by omega, by omega⟩

/-- The cells of element i of a slice at a plain address. -/
theorem elem_cells {w : World} {b off k i : Nat} {cs : List Value} (h : w.cells? 0 ((⟨b, off, none⟩ : Addr).add (i * k)) k = some cs) (j : Nat) (hj : j < k) : w.cell? ⟨b, off + i * k + j, none⟩ = cs[j]? := by
  have hc := (World.cells?_some h).2.2 j hj
  rw [Go.Deep.add_add, add_plain] at hc
  rw [show off + i * k + j = off + (i * k + j) by omega]
  exact hc

end Go.Proofs.YtlgghomjlhnijaaGreat

/- Acts that came in, opened. -/
namespace Go.Proofs.YtlgghomjlhnijaaGreat.Bp
end Go.Proofs.YtlgghomjlhnijaaGreat.Bp
namespace Go.Proofs.YtlgghomjlhnijaaGreat.Mm
open Go.Proofs.YtlgghomjlhnijaaGreat.Bp
open Go.ChangeShapes Go.WideShapes Go.ChangeAt Go.RowKit Go.WideMaps Go.WideElems
open Go.ChangeMaps (open_string shut_string)

theorem act_fields : ∃ f0 f1 f2 f3 f4 f5 : Field, Tryz.prog.underlying 42 = some (.struct #[f0, f1, f2, f3, f4, f5]) ∧ (f0.type = 9 ∧ f1.type = 3 ∧ f2.type = 36 ∧ f3.type = 9 ∧ f4.type = 4 ∧ f5.type = 40) ∧ (f0.offset = 0 ∧ f1.offset = 1 ∧ f2.offset = 2 ∧ f3.offset = 3 ∧ f4.offset = 4 ∧ f5.offset = 5) :=
  ⟨_, _, _, _, _, _, Tryz.underlying42, ⟨by kernel_rfl, by kernel_rfl, by kernel_rfl, by kernel_rfl, by kernel_rfl, by kernel_rfl⟩, by kernel_rfl, by kernel_rfl, by kernel_rfl, by kernel_rfl, by kernel_rfl, by kernel_rfl⟩
theorem cells_act : Tryz.prog.cellsOf 42 = 11 := by kernel_rfl
theorem cells_str : Tryz.prog.cellsOf 9 = 1 := by kernel_rfl
theorem cells_int : Tryz.prog.cellsOf 3 = 1 := by kernel_rfl
theorem cells_u64 : Tryz.prog.cellsOf 36 = 1 := by kernel_rfl
theorem cells_bool : Tryz.prog.cellsOf 4 = 1 := by kernel_rfl

theorem list11 {α : Type} {l : List α} (h : l.length = 11) : ∃ a0 a1 a2 a3 a4 a5 a6 a7 a8 a9 a10, l = [a0, a1, a2, a3, a4, a5, a6, a7, a8, a9, a10] := by
  match l, h with
  | [a0, a1, a2, a3, a4, a5, a6, a7, a8, a9, a10], _ => exact ⟨a0, a1, a2, a3, a4, a5, a6, a7, a8, a9, a10, rfl⟩

theorem cells_callA : Tryz.prog.cellsOf 40 = 6 := by kernel_rfl
theorem cells_u32A : Tryz.prog.cellsOf 37 = 1 := by kernel_rfl
theorem cells_arrA : Tryz.prog.cellsOf 38 = 4 := by kernel_rfl
theorem call_fieldsA : ∃ f0 f1 f2 : Field, Tryz.prog.underlying 40 = some (.struct #[f0, f1, f2]) ∧ (f0.type = 37 ∧ f1.type = 37 ∧ f2.type = 38) ∧ (f0.offset = 0 ∧ f1.offset = 1 ∧ f2.offset = 2) :=
  ⟨_, _, _, Tryz.underlying40, ⟨by kernel_rfl, by kernel_rfl, by kernel_rfl⟩, by kernel_rfl, by kernel_rfl, by kernel_rfl⟩
theorem list6 {α : Type} {l : List α} (h : l.length = 6) : ∃ a0 a1 a2 a3 a4 a5, l = [a0, a1, a2, a3, a4, a5] := by
  match l, h with
  | [a0, a1, a2, a3, a4, a5], _ => exact ⟨a0, a1, a2, a3, a4, a5, rfl⟩
set_option maxRecDepth 100000 in
/-- A call that is read, its cells. -/
theorem call_read {H : Type} {enc : TypeId × Value → H} {w : World} {base : Nat} {spare : Nat → Bool} {held : Bool} {n : Nat} {cs : List Value} {x : DataW H × List MemPlace} (h : DataW.trod enc Tryz.prog w base spare held n 40 cs = some x) :
    ∃ z0 z1 z2 z3 z4 z5 : Int, cs = [.int .u32 z0, .int .u32 z1, .int .u64 z2, .int .u64 z3, .int .u64 z4, .int .u64 z5] ∧ (0 ≤ z0 ∧ z0 < 4294967296) ∧ (0 ≤ z1 ∧ z1 < 4294967296) ∧ (0 ≤ z2 ∧ z2 < 18446744073709551616) ∧ (0 ≤ z3 ∧ z3 < 18446744073709551616) ∧ (0 ≤ z4 ∧ z4 < 18446744073709551616) ∧ (0 ≤ z5 ∧ z5 < 18446744073709551616) := by
  obtain ⟨f0, f1, f2, hu, ⟨t0, t1, t2⟩, o0, o1, o2⟩ := call_fieldsA
  obtain ⟨xs, m, _, _, hl, hlen, hf⟩ := DataW.trod_struct hu h
  rw [cells_callA] at hl
  obtain ⟨a0, a1, a2, a3, a4, a5, rfl⟩ := list6 hl
  have g0 := hf 0 f0 rfl
  have g1 := hf 1 f1 rfl
  have g2 := hf 2 f2 rfl
  have hlt : xs.length = 3 := hlen
  rw [t0, o0, cells_u32A, List.getElem?_eq_getElem (by omega)] at g0
  rw [t1, o1, cells_u32A, List.getElem?_eq_getElem (by omega)] at g1
  rw [t2, o2, cells_arrA, List.getElem?_eq_getElem (by omega)] at g2
  obtain ⟨s0, q0, _, w0⟩ := DataW.trod_int Tryz.underlying37 g0
  obtain ⟨s1, q1, _, w1⟩ := DataW.trod_int Tryz.underlying37 g1
  obtain ⟨ys, m', _, _, _, hyl, hy⟩ := DataW.trod_array Tryz.underlying38 g2
  have y0 := hy 0 (by omega)
  have y1 := hy 1 (by omega)
  have y2 := hy 2 (by omega)
  have y3 := hy 3 (by omega)
  rw [cells_u64, List.getElem?_eq_getElem (by omega)] at y0 y1 y2 y3
  obtain ⟨s2, q2, _, w2⟩ := DataW.trod_int Tryz.underlying36 y0
  obtain ⟨s3, q3, _, w3⟩ := DataW.trod_int Tryz.underlying36 y1
  obtain ⟨s4, q4, _, w4⟩ := DataW.trod_int Tryz.underlying36 y2
  obtain ⟨s5, q5, _, w5⟩ := DataW.trod_int Tryz.underlying36 y3
  simp at q0 q1 q2 q3 q4 q5
  obtain ⟨k0, rfl, b0⟩ := u32_wf w0
  obtain ⟨k1, rfl, b1⟩ := u32_wf w1
  obtain ⟨k2, rfl, b2⟩ := u64_wf w2
  obtain ⟨k3, rfl, b3⟩ := u64_wf w3
  obtain ⟨k4, rfl, b4⟩ := u64_wf w4
  obtain ⟨k5, rfl, b5⟩ := u64_wf w5
  subst q0 q1 q2 q3 q4 q5
  exact ⟨_, _, _, _, _, _, rfl, by omega, by omega, by omega, by omega, by omega, by omega⟩

/-- An act that is read, its cells. -/
theorem act_read {H : Type} {enc : TypeId × Value → H} {w : World} {base : Nat} {spare : Nat → Bool} {held : Bool} {n : Nat} {cs : List Value} {x : DataW H × List MemPlace} (h : DataW.trod enc Tryz.prog w base spare held n 42 cs = some x) :
    ∃ y : AC, cs = [.string y.kind, .int .i64 y.n, .int .u64 y.a, .string y.s, .bool y.wr, .int .u32 y.c0, .int .u32 y.c1, .int .u64 y.c2, .int .u64 y.c3, .int .u64 y.c4, .int .u64 y.c5] ∧ y.kind.size ≤ maxLen ∧ y.s.size ≤ maxLen ∧ y.a < 18446744073709551616 ∧ y.callOk ∧ -9223372036854775808 ≤ y.n ∧ y.n ≤ 9223372036854775807 := by
  obtain ⟨f0, f1, f2, f3, f4, f5, hu, ⟨t0, t1, t2, t3, t4, t5⟩, o0, o1, o2, o3, o4, o5⟩ := act_fields
  obtain ⟨xs, m, _, _, hl, hlen, hf⟩ := DataW.trod_struct hu h
  rw [cells_act] at hl
  obtain ⟨a0, a1, a2, a3, a4, a5, a6, a7, a8, a9, a10, rfl⟩ := list11 hl
  have g0 := hf 0 f0 rfl
  have g1 := hf 1 f1 rfl
  have g2 := hf 2 f2 rfl
  have g3 := hf 3 f3 rfl
  have g4 := hf 4 f4 rfl
  have g5 := hf 5 f5 rfl
  have hlt : xs.length = 6 := hlen
  rw [t0, o0, cells_str, List.getElem?_eq_getElem (by omega)] at g0
  rw [t1, o1, cells_int, List.getElem?_eq_getElem (by omega)] at g1
  rw [t2, o2, cells_u64, List.getElem?_eq_getElem (by omega)] at g2
  rw [t3, o3, cells_str, List.getElem?_eq_getElem (by omega)] at g3
  rw [t4, o4, cells_bool, List.getElem?_eq_getElem (by omega)] at g4
  rw [t5, o5, cells_callA, List.getElem?_eq_getElem (by omega)] at g5
  obtain ⟨z0, z1, z2, z3, z4, z5, q5, hz⟩ := call_read g5
  obtain ⟨s0, q0, _, w0⟩ := DataW.trod_string Tryz.underlying9 g0
  obtain ⟨s1, q1, _, w1⟩ := DataW.trod_int Tryz.underlying3 g1
  obtain ⟨s2, q2, _, w2⟩ := DataW.trod_int Tryz.underlying36 g2
  obtain ⟨s3, q3, _, w3⟩ := DataW.trod_string Tryz.underlying9 g3
  obtain ⟨s4, q4, _⟩ := DataW.trod_bool Tryz.underlying4 g4
  simp at q0 q1 q2 q3 q4 q5
  obtain ⟨rfl, rfl, rfl, rfl, rfl, rfl⟩ := q5
  obtain ⟨k2, rfl, hk2⟩ := u64_wf w2
  subst q0 q1 q2 q3 q4
  exact ⟨⟨s0, s1, k2, s3, s4, z0, z1, z2, z3, z4, z5⟩, rfl, w0, w3, hk2, hz, i64_wf w1⟩

set_option maxRecDepth 100000 in
/-- A slice of acts that came in, opened. -/
theorem open_acts {H : Type} {enc : TypeId × Value → H} {W : World} {v : Value} {d : DataW H} {p : List MemPlace} {r : Reach} {b0 : Nat} (hv : Value.okWide Tryz.prog W r b0 27 v) (h : DataW.Trod enc Tryz.prog W 0 (fun _ => true) true 27 v d p) :
    ∃ (oa : Option Addr) (n cap : Nat) (L : Nat → AC), v = .slice oa n cap ∧ n ≤ maxLen ∧ IsActs oa n L W := by
  obtain ⟨oa, n, cap, rfl⟩ := okWide_slice Tryz.underlying27 hv
  obtain ⟨fuel, hf⟩ := h
  rcases Go.Deep.open_slice Tryz.underlying27 hf with ⟨hcs, _⟩ | ⟨a, len, cap', m, fu, D, Pl, hcs, _, hl, hm, hmm, _, hx⟩
  · simp only [Value.cells, List.cons.injEq, Value.slice.injEq, and_true] at hcs
    obtain ⟨rfl, rfl, rfl⟩ := hcs
    exact ⟨none, 0, 0, fun _ => ⟨⟨#[]⟩, 0, 0, ⟨#[]⟩, false, 0, 0, 0, 0, 0, 0⟩, rfl, Nat.zero_le _, ⟨fun h0 => absurd h0 (Nat.lt_irrefl 0)⟩⟩
  · simp only [Value.cells, List.cons.injEq, Value.slice.injEq, and_true] at hcs
    obtain ⟨rfl, rfl, rfl⟩ := hcs
    rw [if_pos rfl] at hmm
    subst hmm
    rw [cells_act] at hx
    have hy : ∀ i, i < n → ∃ y : AC, ∃ cs', W.cells? 0 (a.add (i * 11)) 11 = some cs' ∧ cs' = [.string y.kind, .int .i64 y.n, .int .u64 y.a, .string y.s, .bool y.wr, .int .u32 y.c0, .int .u32 y.c1, .int .u64 y.c2, .int .u64 y.c3, .int .u64 y.c4, .int .u64 y.c5] ∧ y.kind.size ≤ maxLen ∧ y.s.size ≤ maxLen ∧ y.a < 18446744073709551616 ∧ y.callOk ∧ -9223372036854775808 ≤ y.n ∧ y.n ≤ 9223372036854775807 := fun i hi => by
      obtain ⟨cs', h1, h2⟩ := hx i (by omega)
      obtain ⟨y, h3, h4⟩ := act_read h2
      exact ⟨y, cs', h1, h3, h4⟩
    haveI : Inhabited AC := ⟨⟨⟨#[]⟩, 0, 0, ⟨#[]⟩, false, 0, 0, 0, 0, 0, 0⟩⟩
    obtain ⟨L, hL⟩ := Go.Deep.choose_lt hy
    refine ⟨some a, n, m, L, rfl, Nat.le_trans hl hm, ⟨fun h0 => ?_⟩⟩
    obtain ⟨b, off, spot⟩ := a
    obtain ⟨cs0, k1, k2, _⟩ := hL 0 h0
    have hc0 := (World.cells?_some k1).2.2 0 (by omega)
    rw [k2] at hc0
    have hspot : spot = none := by simpa [Addr.add] using World.cell?_spot hc0
    subst hspot
    refine ⟨b, off, rfl, World.cells?_block (by rw [Nat.zero_mul] at k1; simpa [Addr.add] using k1) (by omega : 0 < 11), fun i hi => ?_⟩
    obtain ⟨cs', k1, rfl, k3, k4, k5, kc, k6, k7⟩ := hL i hi
    exact ⟨elem_cells k1 0 (by omega), elem_cells k1 1 (by omega), elem_cells k1 2 (by omega), elem_cells k1 3 (by omega), elem_cells k1 4 (by omega), elem_cells k1 5 (by omega), elem_cells k1 6 (by omega), elem_cells k1 7 (by omega), elem_cells k1 8 (by omega), elem_cells k1 9 (by omega), elem_cells k1 10 (by omega), k3, k4, k5, k6, k7, kc⟩
end Go.Proofs.YtlgghomjlhnijaaGreat.Mm
