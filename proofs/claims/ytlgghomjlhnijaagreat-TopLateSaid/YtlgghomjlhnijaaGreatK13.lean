/- The walk of TopEnds. -/
import Derived.Test.YtlgghomjlhnijaaGreatK11
import Derived.Test.YtlgghomjlhnijaaGreatK10
import Derived.Test.YtlgghomjlhnijaaGreatK12
namespace Go.Proofs.YtlgghomjlhnijaaGreat
open Go.RowKit Mm

theorem acts_at {oa : Option Addr} {n : Nat} {L : Nat → AC} {V X : World} (h : IsActs oa n L V) (hb : Below V.heap.size V X) {i : Nat} (hi : i < n) : ∃ b off, oa = some ⟨b, off, none⟩ ∧ ActAt X b (off + i * 11) (L i) := by
  obtain ⟨b, off, h1, _, h3⟩ := (h.on hb).lie (by omega)
  exact ⟨b, off, h1, h3 i hi⟩
theorem phase_of {n : Nat} (hn : n < 3) (s : WS) : phaseW n s = (s.T n).phase := by
  unfold phaseW
  rw [if_pos ⟨by omega, by omega⟩, Int.toNat_natCast]
theorem enter_zero {n : Nat} (hn : n < 3) {c : KL} {s : WS} (h : (enterW n c s).2 = 0) : (enterW n c s).1 = s.put n (enterT c) := by
  unfold enterW at h ⊢
  rw [if_pos ⟨by omega, by omega⟩, Int.toNat_natCast] at h ⊢
  by_cases h6 : (s.T n).phase = 6
  · rw [if_pos h6] at h; exact absurd h (by show ¬ (8 : Nat) = 0; omega)
  · rw [if_neg h6] at h ⊢
    by_cases h0 : (s.T n).phase = 0
    · rw [if_pos h0]
    · rw [if_neg h0] at h; exact absurd h (by show ¬ (7 : Nat) = 0; omega)
theorem wp_neq_self {o : Oper} {a : Act} {w : World} {K : Act → World → Prop} {Q : Exit → Act → World → Prop} (t : TypeId) (x y : Operand) (t2 : TypeId) (ho : o.op = .binOp .neq t x y t2) (xs : Array Value) (hx : a.eval x = .agg xs) (hy : a.eval y = .agg xs)
    (hg : (eqGuard .neq t x y (.agg xs) (.agg xs)).run Tryz.prog w = .ok () w) (h : (binOp .neq t (.agg xs) (.agg xs)).run Tryz.prog w = .ok (.bool false) w) (hK : K (a.put o.dst (.bool false)) w) : o.wp Tryz.prog a w K Q := by
  unfold Oper.wp execOp
  simp only [ho, hx, hy, Sem.run_bind, hg, h, Result.andThen_ok]
  exact hK
theorem runs_done {n was k : Nat} {c : KL} {s : WS} (h : Runs' n c was k s) (hp : (s.T n).phase = 0 ∨ (s.T n).phase = 6) : ∃ e, mineL n was s.log = [e] ∧ e.call = c := by
  obtain ⟨_, ⟨_, h1, h5, _⟩ | h⟩ := h
  · omega
  · exact h.2
theorem stepW_run (p : POL) {n : Nat} (hn : n < 3) {s : WS} (h0 : (s.T n).phase ≠ 0) (h6 : (s.T n).phase ≠ 6) : stepW p n s = (stepS p n s, true, 0) := by
  unfold stepW
  rw [if_pos ⟨by omega, by omega⟩, Int.toNat_natCast, if_neg h6, if_neg h0]
/-- What has come of a call that ended. -/
structure Done (n : Nat) (c : KL) (was : Nat) (s : WS) : Prop where
  le : was ≤ s.log.length
  ph : (s.T n).phase = 0 ∨ (s.T n).phase = 6
  one : ∃ e, mineL n was s.log = [e] ∧ e.call = c
set_option maxHeartbeats 8000000 in
set_option maxRecDepth 100000 in
theorem topEnds_any (p : POL) (oa : Option Addr) (cap : Nat) (ob : Option Addr) (nb capb : Nat) (hnb : nb ≤ 9223372036854775807) (B : Nat → AC) (n : Int) (c : KL) (hc : KlOk c) (ot : Option Addr) (nt capt : Nat) (hnt : nt ≤ 9223372036854775807) (T : Nat → AC) (w : World) (hp : IsPol oa cap p w) (hB : IsActs ob nb B w) (hT : IsActs ot nt T w) :
    Calls Tryz.prog 5 #[polV p oa cap, .slice ob nb capb, .int .i64 n, klV c, .slice ot nt capt] w fun e w' => e = .returned (.bool true) ∧ Below w.heap.size w w' := by
  obtain ⟨V, hV, hVb, hVx, hVy⟩ := two_box w #[.slice oa p.rules.length cap, .int .i64 p.els.kind, .int .i64 p.els.errno] (klC c) 26 40
  have hsz : V.heap.size = w.heap.size + 2 := by rw [hV, World.size_alloc, World.size_alloc]
  unfold klC at hV hVy
  have x0 := hVx 0
  have x1 := hVx 1
  have x2 := hVx 2
  have k0 := hVy 0
  have k1 := hVy 1
  have k2 := hVy 2
  have k3 := hVy 3
  have k4 := hVy 4
  have k5 := hVy 5
  simp only [List.getElem?_toArray, List.getElem?_cons_zero, List.getElem?_cons_succ] at x0 x1 x2 k0 k1 k2 k3 k4 k5
  have HPV := hide (hp.on hVb)
  have HBV := hide (hB.on hVb)
  have HTV := hide (hT.on hVb)
  have HLP := lightPol_any p oa cap V HPV.out
  have HLB := fun X (hX : Below V.heap.size V X) => Mm.light_any ob nb capb hnb B 30 X (HBV.out.on hX)
  have HLT := fun X (hX : Below V.heap.size V X) => Mm.light_any ot nt capt hnt T 40 X (HTV.out.on hX)
  have HNE := fun (hf : polF p ≠ 0) X (hX : Below V.heap.size V X) => new_err p hf oa cap X (HPV.out.on hX)
  have HNO := fun (hf : polF p = 0) X (hX : Below V.heap.size V X) => new_ok p hf oa cap X (HPV.out.on hX)
  have HPQ := hide (show ∀ hf : polF p = 0, PolOk p from fun hf => pol_ok hf hp.ok)
  have HVB := hide hVb
  obtain ⟨np, hnp⟩ : ∃ n, n = p.rules.length := ⟨_, rfl⟩
  obtain ⟨lz, hlz⟩ : ∃ z, z = lightB p := ⟨_, rfl⟩
  rw [← hlz] at HLP
  unfold polV at HLP HNE HNO ⊢
  simp only [← hnp] at hV x0 HLP HNE HNO ⊢
  obtain ⟨ak, hak⟩ : ∃ n, n = p.els.kind := ⟨_, rfl⟩
  obtain ⟨ae, hae⟩ : ∃ n, n = p.els.errno := ⟨_, rfl⟩
  simp only [← hak, ← hae] at hV x1 x2 HLP HNE HNO ⊢
  unfold klV klC
  clear hVx hVy hp hB hT hVb hnp hlz hak hae
  go_enter Tryz.func5, Tryz.ntmps5
  go_wp2_with fail
  rw [← hV]
  clear hV
  refine HLP.mono ?_
  rintro e W1 ⟨rfl, hb1⟩
  have H1 := hide hb1
  clear HLP hb1
  cases lz with
  | false => as_aux_lemma =>
    go_wp2
    go_ret
    exact ⟨rfl, below_next HVB.out H1.out⟩
  | true =>
    go_wp2_with fail
    refine (HLB W1 H1.out).mono ?_
    rintro e W2 ⟨rfl, hw⟩
    rw [hw]
    clear hw
    cases hlb : Mm.lightR nb B 30 with
    | false => as_aux_lemma =>
      go_wp2
      go_ret
      exact ⟨rfl, below_next HVB.out H1.out⟩
    | true =>
      go_wp2_with fail
      refine (HLT W1 H1.out).mono ?_
      rintro e W2 ⟨rfl, hw⟩
      rw [hw]
      clear hw
      cases hlt : Mm.lightR nt T 40 with
      | false => as_aux_lemma =>
        go_wp2
        go_ret
        exact ⟨rfl, below_next HVB.out H1.out⟩
      | true =>
        replace x0 := keep_cell H1.out x0
        replace x1 := keep_cell H1.out x1
        replace x2 := keep_cell H1.out x2
        by_cases hf : polF p = 0
        · have HN := HNO hf W1 H1.out
          have HQ := HPQ.out hf
          have HLI := hide (And.intro (Mm.light_spec hlb) (Mm.light_spec hlt))
          clear HNE HNO HPQ HLB HLT hlb hlt
          go_wp2_with fail
          refine HN.mono ?_
          rintro e W3 ⟨g, gm, P, rfl, hN⟩
          have HW0 := hide (WL.start hN H1.out)
          clear hN HN H1 x0 x1 x2
          go_wp2
          go_loopw [13] (fun I w' => ∃ (i : Nat) (lv : Value) (s : WS), i ≤ nb ∧ I = .int .i64 i ∧ Hid (WL p g gm P lv s (i * 90) V w')) (fun I _ => nb - (intOf I).toNat)
          case atStart => exact ⟨0, _, _, by omega, rfl, HW0⟩
          case round =>
            obtain ⟨i, lv, s, hi, rfl, HX⟩ := hrel
            clear HW0
            have hnb30 : nb ≤ 30 := by have := HLI.out.1.1; omega
            have i1 : (0 : Int) ≤ i := by omega
            by_cases hlt : i < nb
            · as_aux_lemma =>
              obtain ⟨b, off, rfl, hA⟩ := acts_at HBV.out HX.out.below hlt
              have HD := HX.out.did hf HQ (by omega) (B i) hA.cOk hA.aLt (HLI.out.1.2 i hlt)
              unfold acC at HD
              have c0 := hA.k0
              have c1 := hA.k1
              have c2 := hA.k2
              have c3 := hA.k3
              have c4 := hA.k4
              have c5 := hA.k5
              have c6 := hA.k6
              have c7 := hA.k7
              have c8 := hA.k8
              have c9 := hA.k9
              have c10 := hA.k10
              have i2 : (i : Int) < nb := by omega
              obtain ⟨x, hx⟩ : ∃ x, x = B i := ⟨_, rfl⟩
              rw [← hx] at c0 c1 c2 c3 c4 c5 c6 c7 c8 c9 c10 HD
              clear hA hx
              go_wp2_with fail
              refine HD.mono ?_
              rintro e w' ⟨rfl, lv', h1⟩
              go_wp2
              go_round
              case rel => exact ⟨i + 1, lv', _, by omega, by go_num, hide (h1.weak (by omega))⟩
              case measure => simp [intOf]; omega
            · have i2 : ¬ ((i : Int) < nb) := by omega
              have HX1 := hide (HX.out.weak (show i * 90 ≤ 2700 by omega))
              clear hlt HX
              by_cases hn : 0 ≤ n ∧ n < 3
              · obtain ⟨m, rfl⟩ : ∃ k : Nat, n = k := ⟨n.toNat, by omega⟩
                have hm : m < 3 := by omega
                have m1 : (0 : Int) ≤ m := hn.1
                have m2 : (m : Int) < 3 := hn.2
                have m3 : ¬ ((m : Int) < 0) := by omega
                have m4 : ¬ ((3 : Int) ≤ m) := by omega
                have HE := HX1.out.enter (m : Int) hc
                have q0 := keep_cell HX1.out.below k0
                have q1 := keep_cell HX1.out.below k1
                have q2 := keep_cell HX1.out.below k2
                have q3 := keep_cell HX1.out.below k3
                have q4 := keep_cell HX1.out.below k4
                have q5 := keep_cell HX1.out.below k5
                unfold klV klC at HE
                by_cases he : (enterW m c s).2 = 0
                · rw [he, errV_zero, enter_zero hm he] at HE
                  clear he hn
                  go_wp2_with fail
                  refine HE.mono ?_
                  rintro e w1 ⟨rfl, h1⟩
                  have HX2 := hide h1
                  clear HE h1 HX1 q0 q1 q2 q3 q4 q5
                  have HL := HX2.out.logs (by omega)
                  obtain ⟨was, hwas⟩ : ∃ x, x = (s.put m (enterT c)).log.length := ⟨_, rfl⟩
                  rw [← hwas] at HL
                  have HWAS := hide hwas
                  have HR0 : Hid (Runs' m c was 0 (s.put m (enterT c))) := hide (by rw [hwas]; exact runs_start (T_put _ _ _))
                  clear hwas
                  go_wp2_with fail
                  refine HL.mono ?_
                  rintro e w2 ⟨rfl, hrow, hb2⟩
                  have HX3 := hide (HX2.out.on hb2)
                  clear HL hrow hb2 HX2
                  go_wp2_with fail
                  have hnt40 : nt ≤ 40 := by have := HLI.out.2.1; omega
                  go_loopw [15] (fun I w' => ∃ (i : Nat) (lv : Value) (s : WS), i ≤ 86 ∧ I = .int .i64 i ∧ Hid (WL p g gm P lv s (2700 + i * 91) V w') ∧ Hid (Runs' m c was i s)) (fun I _ => 86 - (intOf I).toNat)
                  case atStart => exact ⟨0, _, _, by omega, rfl, HX3, HR0⟩
                  case round =>
                    obtain ⟨i, lv1, s1, hi86, rfl, HX, HR⟩ := hrel
                    clear HX3 HR0
                    by_cases hl86 : i < 86
                    · have e86 : (i : Int) < 86 := by omega
                      have HPH := HX.out.phase (m : Int)
                      rw [phase_of hm] at HPH
                      by_cases hp0 : (s1.T m).phase = 0
                      · as_aux_lemma =>
                        rw [hp0] at HPH
                        have HDN := hide (show Done m c was s1 from ⟨HR.out.1, .inl hp0, runs_done HR.out (.inl hp0)⟩)
                        have hphz := hp0
                        clear hp0 HR
                        go_wp2_with fail
                        refine HPH.mono ?_
                        rintro e w' ⟨rfl, hw⟩
                        rw [hw]
                        clear hw HPH
                        have hone := HDN.out.one
                        obtain ⟨LL, hLL⟩ : ∃ x, x = s1.log.length := ⟨_, rfl⟩
                        have HL := HX.out.logs (by omega)
                        rw [← hLL] at HL
                        have HLLH := hide hLL
                        have hwl : was ≤ LL := by rw [hLL]; exact HDN.out.le
                        have hLk : LL ≤ 20000 := by rw [hLL]; have := HX.out.log; omega
                        clear hLL
                        go_wp2_with fail
                        refine HL.mono ?_
                        rintro e w3 ⟨rfl, hrow, hb3⟩
                        have HX4 := hide (HX.out.on hb3)
                        have HROW := hide hrow
                        clear HL hrow hb3
                        obtain ⟨r8, hr8⟩ : ∃ x, x = wr.heap.size := ⟨_, rfl⟩
                        rw [← hr8] at HROW
                        rw [← hr8]
                        clear hr8
                        have h0m : mineL m was (s1.log.take was) = [] := by
                          unfold mineL
                          rw [List.drop_eq_nil_of_le (by rw [List.length_take]; omega)]
                          rfl
                        go_wp2
                        go_loopw [19, 20] (fun M I w' => ∃ i : Nat, was ≤ i ∧ i ≤ LL ∧ I = .int .i64 i ∧ M = .int .i64 ((mineL m was (s1.log.take i)).length : Nat) ∧ Hid (Below w3.heap.size w3 w')) (fun _ I _ => LL - (intOf I).toNat)
                        case atStart => exact ⟨was, by omega, hwl, rfl, by rw [h0m]; rfl, hide (Below.refl _ _)⟩
                        case round =>
                          obtain ⟨j, hwj, hjl, rfl, rfl, HB⟩ := hrel
                          clear h0m
                          have HX5 := hide (HX4.out.on HB.out)
                          have hrow := (HB.out.block _ (Array.getElem?_eq_some_iff.1 HROW.out).1).trans HROW.out
                          by_cases hlj : j < LL
                          · as_aux_lemma =>
                            obtain ⟨en, hen⟩ : ∃ e, s1.log[j]? = some e := ⟨_, List.getElem?_eq_getElem (by rw [← HLLH.out]; exact hlj)⟩
                            have hst : mineL m was (s1.log.take (j + 1)) = mineL m was (s1.log.take j) ++ [en].filter fun e => e.thr == m := by
                              rw [List.take_add_one, hen]
                              exact mine_app m was _ _ (by rw [List.length_take, ← HLLH.out]; omega)
                            have a1 : wr.cell? ⟨r8, j * 21 + 1, none⟩ = some (.int .i64 (en.thr : Nat)) := log_cell hrow hen 1 (by omega) rfl
                            have t1 : (0 : Int) ≤ j := by omega
                            have t2 : (j : Int) < LL := by omega
                            by_cases hth : en.thr = m
                            · have hcall : en.call = c := by
                                obtain ⟨e1, hm1, hc1⟩ := hone
                                have hmem : en ∈ mineL m was s1.log := by
                                  unfold mineL
                                  rw [List.mem_filter]
                                  refine ⟨?_, by simpa using hth⟩
                                  rw [List.mem_iff_getElem?]
                                  exact ⟨j - was, by rw [List.getElem?_drop, show was + (j - was) = j by omega]; exact hen⟩
                                rw [hm1, List.mem_singleton] at hmem
                                rw [hmem]
                                exact hc1
                              have a2 : wr.cell? ⟨r8, j * 21 + 2, none⟩ = some (.int .u32 (c.arch : Nat)) := log_cell hrow hen 2 (by omega) (by rw [← hcall]; rfl)
                              have a3 : wr.cell? ⟨r8, j * 21 + 2 + 1, none⟩ = some (.int .u32 (c.nr : Nat)) := log_cell hrow hen 3 (by omega) (by rw [← hcall]; rfl)
                              have a4 : wr.cell? ⟨r8, j * 21 + 2 + 2, none⟩ = some (.int .u64 (c.a0 : Nat)) := log_cell hrow hen 4 (by omega) (by rw [← hcall]; rfl)
                              have a5 : wr.cell? ⟨r8, j * 21 + 2 + 3, none⟩ = some (.int .u64 (c.a1 : Nat)) := log_cell hrow hen 5 (by omega) (by rw [← hcall]; rfl)
                              have a6 : wr.cell? ⟨r8, j * 21 + 2 + 4, none⟩ = some (.int .u64 (c.a2 : Nat)) := log_cell hrow hen 6 (by omega) (by rw [← hcall]; rfl)
                              have a7 : wr.cell? ⟨r8, j * 21 + 2 + 5, none⟩ = some (.int .u64 (c.a3 : Nat)) := log_cell hrow hen 7 (by omega) (by rw [← hcall]; rfl)
                              have q0 := keep_cell HX5.out.below k0
                              have q1 := keep_cell HX5.out.below k1
                              have q2 := keep_cell HX5.out.below k2
                              have q3 := keep_cell HX5.out.below k3
                              have q4 := keep_cell HX5.out.below k4
                              have q5 := keep_cell HX5.out.below k5
                              have hcnt : (mineL m was (s1.log.take (j + 1))).length = (mineL m was (s1.log.take j)).length + 1 := by
                                rw [hst, List.length_append]
                                simp [hth]
                              have hle : (mineL m was (s1.log.take j)).length ≤ 20000 := by
                                unfold mineL
                                refine Nat.le_trans (List.length_filter_le _ _) ?_
                                rw [List.length_drop, List.length_take, ← HLLH.out]
                                omega
                              obtain ⟨cn, hcn⟩ : ∃ x, x = (mineL m was (s1.log.take j)).length := ⟨_, rfl⟩
                              rw [← hcn] at hcnt hle
                              simp only [← hcn]
                              have HCN := hide hcnt
                              rw [hth] at a1
                              clear hcnt hcn hth hcall hst hen hrow
                              replace a2 : wr.drew.cell? _ = _ := a2
                              replace a3 : wr.drew.cell? _ = _ := a3
                              replace a4 : wr.drew.cell? _ = _ := a4
                              replace a5 : wr.drew.cell? _ = _ := a5
                              replace a6 : wr.drew.cell? _ = _ := a6
                              replace a7 : wr.drew.cell? _ = _ := a7
                              replace q0 : wr.drew.cell? _ = _ := q0
                              replace q1 : wr.drew.cell? _ = _ := q1
                              replace q2 : wr.drew.cell? _ = _ := q2
                              replace q3 : wr.drew.cell? _ = _ := q3
                              replace q4 : wr.drew.cell? _ = _ := q4
                              replace q5 : wr.drew.cell? _ = _ := q5
                              go_wp2_with fail
                              refine wp_region_any (by kernel_rfl) ?_
                              change wpAny _ _ _ _ _ _ _ (World.drew _)
                              refine Gl.wpAny_takeOf 0 (some 142) (.slice (some ⟨r8, 0, none⟩) LL LL) rfl rfl (by kernel_rfl) (by kernel_rfl) (by kernel_rfl) (fun _ _ _ h => h) (Or.inl ⟨by rfl, ?_⟩) ?_
                              · intro wx
                                go_simp
                              try simp only [Act.put, List.setIfInBounds_toArray, List.set_cons_zero, List.set_cons_succ]
                              refine Gl.wpAny_takeOf 1 (some 143) (.int .i64 (j : Nat)) rfl rfl (by kernel_rfl) (by kernel_rfl) (by kernel_rfl) (fun _ _ _ h => h) (Or.inl ⟨by rfl, ?_⟩) ?_
                              · intro wx
                                go_simp
                              try simp only [Act.put, List.setIfInBounds_toArray, List.set_cons_zero, List.set_cons_succ]
                              refine Gl.wpAny_takeOf 2 (some 144) (Value.pointer (some ⟨r8, j * 21, none⟩)) rfl rfl (by kernel_rfl) (by kernel_rfl) (by kernel_rfl) (fun _ _ _ h => h) (Or.inl ⟨by rfl, ?_⟩) ?_
                              · intro wx
                                go_simp
                              try simp only [Act.put, List.setIfInBounds_toArray, List.set_cons_zero, List.set_cons_succ]
                              refine Gl.wpAny_takeOf 3 (some 145) (Value.pointer (some ⟨r8, j * 21 + 2, none⟩)) rfl rfl (by kernel_rfl) (by kernel_rfl) (by kernel_rfl) (fun _ _ _ h => h) (Or.inl ⟨by rfl, ?_⟩) ?_
                              · intro wx
                                go_simp
                              try simp only [Act.put, List.setIfInBounds_toArray, List.set_cons_zero, List.set_cons_succ]
                              refine wpAny_two (i := 4) (j := 5) (by kernel_rfl) rfl rfl rfl rfl (fun K hK => ?_) (fun K hK => ?_)
                              · go_simp
                                refine hK _ _ ?_
                                clear hK K
                                try simp only [Act.put, List.setIfInBounds_toArray, List.set_cons_zero, List.set_cons_succ]
                                refine Gl.wpAny_only (i := 5) (by kernel_rfl) rfl rfl (fun K hK => ?_)
                                go_simp
                                refine hK _ _ ?_
                                clear hK K
                                try simp only [Act.put, List.setIfInBounds_toArray, List.set_cons_zero, List.set_cons_succ]
                                refine Gl.wpAny_only (i := 6) (by kernel_rfl) rfl rfl (fun K hK => ?_)
                                refine wp_neq_self 40 _ _ _ rfl #[.int .u32 c.arch, .int .u32 c.nr, .int .u64 c.a0, .int .u64 c.a1, .int .u64 c.a2, .int .u64 c.a3] rfl rfl (run_eqGuard_agg _ _ _ _ _ _ _ (by kernel_rfl)) (neq_call c _) ?_
                                refine hK _ _ ?_
                                clear hK K
                                try simp only [Act.put, List.setIfInBounds_toArray, List.set_cons_zero, List.set_cons_succ]
                                refine wpAny_done (by kernel_rfl) ?_ _
                                go_wp2
                                go_round
                                case rel => exact ⟨j + 1, by omega, by omega, by go_num, by rw [HCN.out]; go_num, hide (below_next HB.out (Below.refl _ _).drew)⟩
                                case measure => simp [intOf]; omega
                              · go_simp
                                refine hK _ _ ?_
                                clear hK K
                                try simp only [Act.put, List.setIfInBounds_toArray, List.set_cons_zero, List.set_cons_succ]
                                refine Gl.wpAny_only (i := 4) (by kernel_rfl) rfl rfl (fun K hK => ?_)
                                go_simp
                                refine hK _ _ ?_
                                clear hK K
                                try simp only [Act.put, List.setIfInBounds_toArray, List.set_cons_zero, List.set_cons_succ]
                                refine Gl.wpAny_only (i := 6) (by kernel_rfl) rfl rfl (fun K hK => ?_)
                                refine wp_neq_self 40 _ _ _ rfl #[.int .u32 c.arch, .int .u32 c.nr, .int .u64 c.a0, .int .u64 c.a1, .int .u64 c.a2, .int .u64 c.a3] rfl rfl (run_eqGuard_agg _ _ _ _ _ _ _ (by kernel_rfl)) (neq_call c _) ?_
                                refine hK _ _ ?_
                                clear hK K
                                try simp only [Act.put, List.setIfInBounds_toArray, List.set_cons_zero, List.set_cons_succ]
                                refine wpAny_done (by kernel_rfl) ?_ _
                                go_wp2
                                go_round
                                case rel => exact ⟨j + 1, by omega, by omega, by go_num, by rw [HCN.out]; go_num, hide (below_next HB.out (Below.refl _ _).drew)⟩
                                case measure => simp [intOf]; omega
                            · have hcnt : mineL m was (s1.log.take (j + 1)) = mineL m was (s1.log.take j) := by
                                rw [hst]
                                simp [hth]
                              have HCN := hide hcnt
                              have hne : ((en.thr : Int) == (m : Int)) = false := by simp; omega
                              clear hcnt hst hen hrow hth
                              go_wp2
                              go_round
                              case rel => exact ⟨j + 1, by omega, by omega, by go_num, by rw [HCN.out], HB⟩
                              case measure => simp [intOf]; omega
                          · as_aux_lemma =>
                            have hfin : (mineL m was (s1.log.take j)).length = 1 := by
                              rw [List.take_of_length_le (by rw [← HLLH.out]; omega)]
                              obtain ⟨e1, hm1, _⟩ := hone
                              rw [hm1]
                              rfl
                            have t2 : ¬ ((j : Int) < LL) := by omega
                            rw [hfin]
                            have HPF := HX5.out.phase (m : Int)
                            rw [phase_of hm, hphz] at HPF
                            clear hfin hrow
                            go_wp2_with fail
                            refine HPF.mono ?_
                            rintro e w' ⟨rfl, hw⟩
                            rw [hw]
                            clear hw
                            go_wp2
                            go_ret
                            exact ⟨rfl, below_next HVB.out HX5.out.below⟩
                      · by_cases hp6 : (s1.T m).phase = 6
                        · as_aux_lemma =>
                          rw [hp6] at HPH
                          have HDN := hide (show Done m c was s1 from ⟨HR.out.1, .inr hp6, runs_done HR.out (.inr hp6)⟩)
                          have hphz := hp6
                          clear hp6 hp0 HR
                          go_wp2_with fail
                          refine HPH.mono ?_
                          rintro e w' ⟨rfl, hw⟩
                          rw [hw]
                          clear hw
                          go_wp2_with fail
                          refine HPH.mono ?_
                          rintro e w' ⟨rfl, hw⟩
                          rw [hw]
                          clear hw HPH
                          have hone := HDN.out.one
                          obtain ⟨LL, hLL⟩ : ∃ x, x = s1.log.length := ⟨_, rfl⟩
                          have HL := HX.out.logs (by omega)
                          rw [← hLL] at HL
                          have HLLH := hide hLL
                          have hwl : was ≤ LL := by rw [hLL]; exact HDN.out.le
                          have hLk : LL ≤ 20000 := by rw [hLL]; have := HX.out.log; omega
                          clear hLL
                          go_wp2_with fail
                          refine HL.mono ?_
                          rintro e w3 ⟨rfl, hrow, hb3⟩
                          have HX4 := hide (HX.out.on hb3)
                          have HROW := hide hrow
                          clear HL hrow hb3
                          obtain ⟨r8, hr8⟩ : ∃ x, x = wr.heap.size := ⟨_, rfl⟩
                          rw [← hr8] at HROW
                          rw [← hr8]
                          clear hr8
                          have h0m : mineL m was (s1.log.take was) = [] := by
                            unfold mineL
                            rw [List.drop_eq_nil_of_le (by rw [List.length_take]; omega)]
                            rfl
                          go_wp2
                          go_loopw [19, 20] (fun M I w' => ∃ i : Nat, was ≤ i ∧ i ≤ LL ∧ I = .int .i64 i ∧ M = .int .i64 ((mineL m was (s1.log.take i)).length : Nat) ∧ Hid (Below w3.heap.size w3 w')) (fun _ I _ => LL - (intOf I).toNat)
                          case atStart => exact ⟨was, by omega, hwl, rfl, by rw [h0m]; rfl, hide (Below.refl _ _)⟩
                          case round =>
                            obtain ⟨j, hwj, hjl, rfl, rfl, HB⟩ := hrel
                            clear h0m
                            have HX5 := hide (HX4.out.on HB.out)
                            have hrow := (HB.out.block _ (Array.getElem?_eq_some_iff.1 HROW.out).1).trans HROW.out
                            by_cases hlj : j < LL
                            · as_aux_lemma =>
                              obtain ⟨en, hen⟩ : ∃ e, s1.log[j]? = some e := ⟨_, List.getElem?_eq_getElem (by rw [← HLLH.out]; exact hlj)⟩
                              have hst : mineL m was (s1.log.take (j + 1)) = mineL m was (s1.log.take j) ++ [en].filter fun e => e.thr == m := by
                                rw [List.take_add_one, hen]
                                exact mine_app m was _ _ (by rw [List.length_take, ← HLLH.out]; omega)
                              have a1 : wr.cell? ⟨r8, j * 21 + 1, none⟩ = some (.int .i64 (en.thr : Nat)) := log_cell hrow hen 1 (by omega) rfl
                              have t1 : (0 : Int) ≤ j := by omega
                              have t2 : (j : Int) < LL := by omega
                              by_cases hth : en.thr = m
                              · have hcall : en.call = c := by
                                  obtain ⟨e1, hm1, hc1⟩ := hone
                                  have hmem : en ∈ mineL m was s1.log := by
                                    unfold mineL
                                    rw [List.mem_filter]
                                    refine ⟨?_, by simpa using hth⟩
                                    rw [List.mem_iff_getElem?]
                                    exact ⟨j - was, by rw [List.getElem?_drop, show was + (j - was) = j by omega]; exact hen⟩
                                  rw [hm1, List.mem_singleton] at hmem
                                  rw [hmem]
                                  exact hc1
                                have a2 : wr.cell? ⟨r8, j * 21 + 2, none⟩ = some (.int .u32 (c.arch : Nat)) := log_cell hrow hen 2 (by omega) (by rw [← hcall]; rfl)
                                have a3 : wr.cell? ⟨r8, j * 21 + 2 + 1, none⟩ = some (.int .u32 (c.nr : Nat)) := log_cell hrow hen 3 (by omega) (by rw [← hcall]; rfl)
                                have a4 : wr.cell? ⟨r8, j * 21 + 2 + 2, none⟩ = some (.int .u64 (c.a0 : Nat)) := log_cell hrow hen 4 (by omega) (by rw [← hcall]; rfl)
                                have a5 : wr.cell? ⟨r8, j * 21 + 2 + 3, none⟩ = some (.int .u64 (c.a1 : Nat)) := log_cell hrow hen 5 (by omega) (by rw [← hcall]; rfl)
                                have a6 : wr.cell? ⟨r8, j * 21 + 2 + 4, none⟩ = some (.int .u64 (c.a2 : Nat)) := log_cell hrow hen 6 (by omega) (by rw [← hcall]; rfl)
                                have a7 : wr.cell? ⟨r8, j * 21 + 2 + 5, none⟩ = some (.int .u64 (c.a3 : Nat)) := log_cell hrow hen 7 (by omega) (by rw [← hcall]; rfl)
                                have q0 := keep_cell HX5.out.below k0
                                have q1 := keep_cell HX5.out.below k1
                                have q2 := keep_cell HX5.out.below k2
                                have q3 := keep_cell HX5.out.below k3
                                have q4 := keep_cell HX5.out.below k4
                                have q5 := keep_cell HX5.out.below k5
                                have hcnt : (mineL m was (s1.log.take (j + 1))).length = (mineL m was (s1.log.take j)).length + 1 := by
                                  rw [hst, List.length_append]
                                  simp [hth]
                                have hle : (mineL m was (s1.log.take j)).length ≤ 20000 := by
                                  unfold mineL
                                  refine Nat.le_trans (List.length_filter_le _ _) ?_
                                  rw [List.length_drop, List.length_take, ← HLLH.out]
                                  omega
                                obtain ⟨cn, hcn⟩ : ∃ x, x = (mineL m was (s1.log.take j)).length := ⟨_, rfl⟩
                                rw [← hcn] at hcnt hle
                                simp only [← hcn]
                                have HCN := hide hcnt
                                rw [hth] at a1
                                clear hcnt hcn hth hcall hst hen hrow
                                replace a2 : wr.drew.cell? _ = _ := a2
                                replace a3 : wr.drew.cell? _ = _ := a3
                                replace a4 : wr.drew.cell? _ = _ := a4
                                replace a5 : wr.drew.cell? _ = _ := a5
                                replace a6 : wr.drew.cell? _ = _ := a6
                                replace a7 : wr.drew.cell? _ = _ := a7
                                replace q0 : wr.drew.cell? _ = _ := q0
                                replace q1 : wr.drew.cell? _ = _ := q1
                                replace q2 : wr.drew.cell? _ = _ := q2
                                replace q3 : wr.drew.cell? _ = _ := q3
                                replace q4 : wr.drew.cell? _ = _ := q4
                                replace q5 : wr.drew.cell? _ = _ := q5
                                go_wp2_with fail
                                refine wp_region_any (by kernel_rfl) ?_
                                change wpAny _ _ _ _ _ _ _ (World.drew _)
                                refine Gl.wpAny_takeOf 0 (some 142) (.slice (some ⟨r8, 0, none⟩) LL LL) rfl rfl (by kernel_rfl) (by kernel_rfl) (by kernel_rfl) (fun _ _ _ h => h) (Or.inl ⟨by rfl, ?_⟩) ?_
                                · intro wx
                                  go_simp
                                try simp only [Act.put, List.setIfInBounds_toArray, List.set_cons_zero, List.set_cons_succ]
                                refine Gl.wpAny_takeOf 1 (some 143) (.int .i64 (j : Nat)) rfl rfl (by kernel_rfl) (by kernel_rfl) (by kernel_rfl) (fun _ _ _ h => h) (Or.inl ⟨by rfl, ?_⟩) ?_
                                · intro wx
                                  go_simp
                                try simp only [Act.put, List.setIfInBounds_toArray, List.set_cons_zero, List.set_cons_succ]
                                refine Gl.wpAny_takeOf 2 (some 144) (Value.pointer (some ⟨r8, j * 21, none⟩)) rfl rfl (by kernel_rfl) (by kernel_rfl) (by kernel_rfl) (fun _ _ _ h => h) (Or.inl ⟨by rfl, ?_⟩) ?_
                                · intro wx
                                  go_simp
                                try simp only [Act.put, List.setIfInBounds_toArray, List.set_cons_zero, List.set_cons_succ]
                                refine Gl.wpAny_takeOf 3 (some 145) (Value.pointer (some ⟨r8, j * 21 + 2, none⟩)) rfl rfl (by kernel_rfl) (by kernel_rfl) (by kernel_rfl) (fun _ _ _ h => h) (Or.inl ⟨by rfl, ?_⟩) ?_
                                · intro wx
                                  go_simp
                                try simp only [Act.put, List.setIfInBounds_toArray, List.set_cons_zero, List.set_cons_succ]
                                refine wpAny_two (i := 4) (j := 5) (by kernel_rfl) rfl rfl rfl rfl (fun K hK => ?_) (fun K hK => ?_)
                                · go_simp
                                  refine hK _ _ ?_
                                  clear hK K
                                  try simp only [Act.put, List.setIfInBounds_toArray, List.set_cons_zero, List.set_cons_succ]
                                  refine Gl.wpAny_only (i := 5) (by kernel_rfl) rfl rfl (fun K hK => ?_)
                                  go_simp
                                  refine hK _ _ ?_
                                  clear hK K
                                  try simp only [Act.put, List.setIfInBounds_toArray, List.set_cons_zero, List.set_cons_succ]
                                  refine Gl.wpAny_only (i := 6) (by kernel_rfl) rfl rfl (fun K hK => ?_)
                                  refine wp_neq_self 40 _ _ _ rfl #[.int .u32 c.arch, .int .u32 c.nr, .int .u64 c.a0, .int .u64 c.a1, .int .u64 c.a2, .int .u64 c.a3] rfl rfl (run_eqGuard_agg _ _ _ _ _ _ _ (by kernel_rfl)) (neq_call c _) ?_
                                  refine hK _ _ ?_
                                  clear hK K
                                  try simp only [Act.put, List.setIfInBounds_toArray, List.set_cons_zero, List.set_cons_succ]
                                  refine wpAny_done (by kernel_rfl) ?_ _
                                  go_wp2
                                  go_round
                                  case rel => exact ⟨j + 1, by omega, by omega, by go_num, by rw [HCN.out]; go_num, hide (below_next HB.out (Below.refl _ _).drew)⟩
                                  case measure => simp [intOf]; omega
                                · go_simp
                                  refine hK _ _ ?_
                                  clear hK K
                                  try simp only [Act.put, List.setIfInBounds_toArray, List.set_cons_zero, List.set_cons_succ]
                                  refine Gl.wpAny_only (i := 4) (by kernel_rfl) rfl rfl (fun K hK => ?_)
                                  go_simp
                                  refine hK _ _ ?_
                                  clear hK K
                                  try simp only [Act.put, List.setIfInBounds_toArray, List.set_cons_zero, List.set_cons_succ]
                                  refine Gl.wpAny_only (i := 6) (by kernel_rfl) rfl rfl (fun K hK => ?_)
                                  refine wp_neq_self 40 _ _ _ rfl #[.int .u32 c.arch, .int .u32 c.nr, .int .u64 c.a0, .int .u64 c.a1, .int .u64 c.a2, .int .u64 c.a3] rfl rfl (run_eqGuard_agg _ _ _ _ _ _ _ (by kernel_rfl)) (neq_call c _) ?_
                                  refine hK _ _ ?_
                                  clear hK K
                                  try simp only [Act.put, List.setIfInBounds_toArray, List.set_cons_zero, List.set_cons_succ]
                                  refine wpAny_done (by kernel_rfl) ?_ _
                                  go_wp2
                                  go_round
                                  case rel => exact ⟨j + 1, by omega, by omega, by go_num, by rw [HCN.out]; go_num, hide (below_next HB.out (Below.refl _ _).drew)⟩
                                  case measure => simp [intOf]; omega
                              · have hcnt : mineL m was (s1.log.take (j + 1)) = mineL m was (s1.log.take j) := by
                                  rw [hst]
                                  simp [hth]
                                have HCN := hide hcnt
                                have hne : ((en.thr : Int) == (m : Int)) = false := by simp; omega
                                clear hcnt hst hen hrow hth
                                go_wp2
                                go_round
                                case rel => exact ⟨j + 1, by omega, by omega, by go_num, by rw [HCN.out], HB⟩
                                case measure => simp [intOf]; omega
                            · as_aux_lemma =>
                              have hfin : (mineL m was (s1.log.take j)).length = 1 := by
                                rw [List.take_of_length_le (by rw [← HLLH.out]; omega)]
                                obtain ⟨e1, hm1, _⟩ := hone
                                rw [hm1]
                                rfl
                              have t2 : ¬ ((j : Int) < LL) := by omega
                              rw [hfin]
                              have HPF := HX5.out.phase (m : Int)
                              rw [phase_of hm, hphz] at HPF
                              clear hfin hrow
                              go_wp2_with fail
                              refine HPF.mono ?_
                              rintro e w' ⟨rfl, hw⟩
                              rw [hw]
                              clear hw
                              go_wp2_with fail
                              refine HPF.mono ?_
                              rintro e w' ⟨rfl, hw⟩
                              rw [hw]
                              clear hw
                              go_wp2
                              go_ret
                              exact ⟨rfl, below_next HVB.out HX5.out.below⟩
                        · obtain ⟨ph, hph⟩ : ∃ x, x = (s1.T m).phase := ⟨_, rfl⟩
                          rw [← hph] at HPH hp0 hp6
                          have n0 : ¬ ((ph : Int) = 0) := by omega
                          have n6 : ¬ ((ph : Int) = 6) := by omega
                          have u0 : ((ph : Int) != 0) = true := by simp; omega
                          have u6 : ((ph : Int) != 6) = true := by simp; omega
                          have HS := HX.out.step hf HQ (by omega) (m : Int)
                          rw [stepW_run p hm (by rw [← hph]; exact hp0) (by rw [← hph]; exact hp6), errV_zero] at HS
                          have hle6 := (HX.out.inv.thr m hm).ph
                          have HRS := hide (runs_step hf HX.out.inv hm HR.out (by rw [← hph]; omega) (by omega))
                          simp only at HS
                          clear hp0 hp6 hph hle6 HR
                          go_wp2_with fail
                          refine HPH.mono ?_
                          rintro e w' ⟨rfl, hw⟩
                          rw [hw]
                          clear hw
                          go_wp2_with fail
                          refine HPH.mono ?_
                          rintro e w' ⟨rfl, hw⟩
                          rw [hw]
                          clear hw HPH
                          go_wp2_with fail
                          refine HS.mono ?_
                          rintro e w4 ⟨rfl, lv4, h4⟩
                          have HX4 := hide h4
                          clear HS h4
                          have t1 : (0 : Int) ≤ i := by omega
                          by_cases hit : i < nt
                          · have t2 : (i : Int) < nt := by omega
                            obtain ⟨b, off, rfl, hA⟩ := acts_at HTV.out HX4.out.below hit
                            have HD := HX4.out.did hf HQ (by omega) (T i) hA.cOk hA.aLt (HLI.out.2.2 i hit)
                            unfold acC at HD
                            have c0 := hA.k0
                            have c1 := hA.k1
                            have c2 := hA.k2
                            have c3 := hA.k3
                            have c4 := hA.k4
                            have c5 := hA.k5
                            have c6 := hA.k6
                            have c7 := hA.k7
                            have c8 := hA.k8
                            have c9 := hA.k9
                            have c10 := hA.k10
                            have HAP := hide (show (T i).n ≠ m → ((T i).kind.toList == [101, 110, 116, 101, 114]) = false → Runs' m c was (i + 1) (didS p (T i) (stepS p m s1)) from fun h1 h2 => runs_apart HRS.out (did_apart hf HQ HX4.out.inv h1 h2))
                            obtain ⟨x, hx⟩ : ∃ x, x = T i := ⟨_, rfl⟩
                            rw [← hx] at c0 c1 c2 c3 c4 c5 c6 c7 c8 c9 c10 HD HAP
                            clear hA hx
                            by_cases hxm : x.n = m
                            · rw [hxm] at c1
                              clear hxm HAP HD
                              go_wp2
                              go_round
                              case rel => exact ⟨i + 1, lv4, _, by omega, by go_num, hide (HX4.out.weak (by omega)), HRS⟩
                              case measure => simp [intOf]; omega
                            · have hxb : ¬ (x.n = (m : Int)) := hxm
                              cases hke : (x.kind.toList == [101, 110, 116, 101, 114]) with
                              | true =>
                                clear HAP HD
                                go_wp2
                                go_round
                                case rel => exact ⟨i + 1, lv4, _, by omega, by go_num, hide (HX4.out.weak (by omega)), HRS⟩
                                case measure => simp [intOf]; omega
                              | false =>
                                have HAQ := hide (HAP.out hxm hke)
                                clear HAP hxm
                                go_wp2_with fail
                                refine HD.mono ?_
                                rintro e w5 ⟨rfl, lv5, h5⟩
                                go_wp2
                                go_round
                                case rel => exact ⟨i + 1, lv5, _, by omega, by go_num, hide (h5.weak (by omega)), HAQ⟩
                                case measure => simp [intOf]; omega
                          · have t2 : ¬ ((i : Int) < nt) := by omega
                            clear hit
                            go_wp2
                            go_round
                            case rel => exact ⟨i + 1, lv4, _, by omega, by go_num, hide (HX4.out.weak (by omega)), HRS⟩
                            case measure => simp [intOf]; omega
                    · obtain rfl : i = 86 := by omega
                      have e86 : ¬ ((86 : Int) < 86) := by omega
                      have hend := runs_end HX.out.inv hm HR.out
                      have HDN := hide (show Done m c was s1 from ⟨HR.out.1, hend.1, hend.2⟩)
                      clear HR
                      rcases hend.1 with hphz | hphz
                      · as_aux_lemma =>
                        clear hend
                        have hone := HDN.out.one
                        obtain ⟨LL, hLL⟩ : ∃ x, x = s1.log.length := ⟨_, rfl⟩
                        have HL := HX.out.logs (by omega)
                        rw [← hLL] at HL
                        have HLLH := hide hLL
                        have hwl : was ≤ LL := by rw [hLL]; exact HDN.out.le
                        have hLk : LL ≤ 20000 := by rw [hLL]; have := HX.out.log; omega
                        clear hLL
                        go_wp2_with fail
                        refine HL.mono ?_
                        rintro e w3 ⟨rfl, hrow, hb3⟩
                        have HX4 := hide (HX.out.on hb3)
                        have HROW := hide hrow
                        clear HL hrow hb3
                        obtain ⟨r8, hr8⟩ : ∃ x, x = wr.heap.size := ⟨_, rfl⟩
                        rw [← hr8] at HROW
                        rw [← hr8]
                        clear hr8
                        have h0m : mineL m was (s1.log.take was) = [] := by
                          unfold mineL
                          rw [List.drop_eq_nil_of_le (by rw [List.length_take]; omega)]
                          rfl
                        go_wp2
                        go_loopw [19, 20] (fun M I w' => ∃ i : Nat, was ≤ i ∧ i ≤ LL ∧ I = .int .i64 i ∧ M = .int .i64 ((mineL m was (s1.log.take i)).length : Nat) ∧ Hid (Below w3.heap.size w3 w')) (fun _ I _ => LL - (intOf I).toNat)
                        case atStart => exact ⟨was, by omega, hwl, rfl, by rw [h0m]; rfl, hide (Below.refl _ _)⟩
                        case round =>
                          obtain ⟨j, hwj, hjl, rfl, rfl, HB⟩ := hrel
                          clear h0m
                          have HX5 := hide (HX4.out.on HB.out)
                          have hrow := (HB.out.block _ (Array.getElem?_eq_some_iff.1 HROW.out).1).trans HROW.out
                          by_cases hlj : j < LL
                          · as_aux_lemma =>
                            obtain ⟨en, hen⟩ : ∃ e, s1.log[j]? = some e := ⟨_, List.getElem?_eq_getElem (by rw [← HLLH.out]; exact hlj)⟩
                            have hst : mineL m was (s1.log.take (j + 1)) = mineL m was (s1.log.take j) ++ [en].filter fun e => e.thr == m := by
                              rw [List.take_add_one, hen]
                              exact mine_app m was _ _ (by rw [List.length_take, ← HLLH.out]; omega)
                            have a1 : wr.cell? ⟨r8, j * 21 + 1, none⟩ = some (.int .i64 (en.thr : Nat)) := log_cell hrow hen 1 (by omega) rfl
                            have t1 : (0 : Int) ≤ j := by omega
                            have t2 : (j : Int) < LL := by omega
                            by_cases hth : en.thr = m
                            · have hcall : en.call = c := by
                                obtain ⟨e1, hm1, hc1⟩ := hone
                                have hmem : en ∈ mineL m was s1.log := by
                                  unfold mineL
                                  rw [List.mem_filter]
                                  refine ⟨?_, by simpa using hth⟩
                                  rw [List.mem_iff_getElem?]
                                  exact ⟨j - was, by rw [List.getElem?_drop, show was + (j - was) = j by omega]; exact hen⟩
                                rw [hm1, List.mem_singleton] at hmem
                                rw [hmem]
                                exact hc1
                              have a2 : wr.cell? ⟨r8, j * 21 + 2, none⟩ = some (.int .u32 (c.arch : Nat)) := log_cell hrow hen 2 (by omega) (by rw [← hcall]; rfl)
                              have a3 : wr.cell? ⟨r8, j * 21 + 2 + 1, none⟩ = some (.int .u32 (c.nr : Nat)) := log_cell hrow hen 3 (by omega) (by rw [← hcall]; rfl)
                              have a4 : wr.cell? ⟨r8, j * 21 + 2 + 2, none⟩ = some (.int .u64 (c.a0 : Nat)) := log_cell hrow hen 4 (by omega) (by rw [← hcall]; rfl)
                              have a5 : wr.cell? ⟨r8, j * 21 + 2 + 3, none⟩ = some (.int .u64 (c.a1 : Nat)) := log_cell hrow hen 5 (by omega) (by rw [← hcall]; rfl)
                              have a6 : wr.cell? ⟨r8, j * 21 + 2 + 4, none⟩ = some (.int .u64 (c.a2 : Nat)) := log_cell hrow hen 6 (by omega) (by rw [← hcall]; rfl)
                              have a7 : wr.cell? ⟨r8, j * 21 + 2 + 5, none⟩ = some (.int .u64 (c.a3 : Nat)) := log_cell hrow hen 7 (by omega) (by rw [← hcall]; rfl)
                              have q0 := keep_cell HX5.out.below k0
                              have q1 := keep_cell HX5.out.below k1
                              have q2 := keep_cell HX5.out.below k2
                              have q3 := keep_cell HX5.out.below k3
                              have q4 := keep_cell HX5.out.below k4
                              have q5 := keep_cell HX5.out.below k5
                              have hcnt : (mineL m was (s1.log.take (j + 1))).length = (mineL m was (s1.log.take j)).length + 1 := by
                                rw [hst, List.length_append]
                                simp [hth]
                              have hle : (mineL m was (s1.log.take j)).length ≤ 20000 := by
                                unfold mineL
                                refine Nat.le_trans (List.length_filter_le _ _) ?_
                                rw [List.length_drop, List.length_take, ← HLLH.out]
                                omega
                              obtain ⟨cn, hcn⟩ : ∃ x, x = (mineL m was (s1.log.take j)).length := ⟨_, rfl⟩
                              rw [← hcn] at hcnt hle
                              simp only [← hcn]
                              have HCN := hide hcnt
                              rw [hth] at a1
                              clear hcnt hcn hth hcall hst hen hrow
                              replace a2 : wr.drew.cell? _ = _ := a2
                              replace a3 : wr.drew.cell? _ = _ := a3
                              replace a4 : wr.drew.cell? _ = _ := a4
                              replace a5 : wr.drew.cell? _ = _ := a5
                              replace a6 : wr.drew.cell? _ = _ := a6
                              replace a7 : wr.drew.cell? _ = _ := a7
                              replace q0 : wr.drew.cell? _ = _ := q0
                              replace q1 : wr.drew.cell? _ = _ := q1
                              replace q2 : wr.drew.cell? _ = _ := q2
                              replace q3 : wr.drew.cell? _ = _ := q3
                              replace q4 : wr.drew.cell? _ = _ := q4
                              replace q5 : wr.drew.cell? _ = _ := q5
                              go_wp2_with fail
                              refine wp_region_any (by kernel_rfl) ?_
                              change wpAny _ _ _ _ _ _ _ (World.drew _)
                              refine Gl.wpAny_takeOf 0 (some 142) (.slice (some ⟨r8, 0, none⟩) LL LL) rfl rfl (by kernel_rfl) (by kernel_rfl) (by kernel_rfl) (fun _ _ _ h => h) (Or.inl ⟨by rfl, ?_⟩) ?_
                              · intro wx
                                go_simp
                              try simp only [Act.put, List.setIfInBounds_toArray, List.set_cons_zero, List.set_cons_succ]
                              refine Gl.wpAny_takeOf 1 (some 143) (.int .i64 (j : Nat)) rfl rfl (by kernel_rfl) (by kernel_rfl) (by kernel_rfl) (fun _ _ _ h => h) (Or.inl ⟨by rfl, ?_⟩) ?_
                              · intro wx
                                go_simp
                              try simp only [Act.put, List.setIfInBounds_toArray, List.set_cons_zero, List.set_cons_succ]
                              refine Gl.wpAny_takeOf 2 (some 144) (Value.pointer (some ⟨r8, j * 21, none⟩)) rfl rfl (by kernel_rfl) (by kernel_rfl) (by kernel_rfl) (fun _ _ _ h => h) (Or.inl ⟨by rfl, ?_⟩) ?_
                              · intro wx
                                go_simp
                              try simp only [Act.put, List.setIfInBounds_toArray, List.set_cons_zero, List.set_cons_succ]
                              refine Gl.wpAny_takeOf 3 (some 145) (Value.pointer (some ⟨r8, j * 21 + 2, none⟩)) rfl rfl (by kernel_rfl) (by kernel_rfl) (by kernel_rfl) (fun _ _ _ h => h) (Or.inl ⟨by rfl, ?_⟩) ?_
                              · intro wx
                                go_simp
                              try simp only [Act.put, List.setIfInBounds_toArray, List.set_cons_zero, List.set_cons_succ]
                              refine wpAny_two (i := 4) (j := 5) (by kernel_rfl) rfl rfl rfl rfl (fun K hK => ?_) (fun K hK => ?_)
                              · go_simp
                                refine hK _ _ ?_
                                clear hK K
                                try simp only [Act.put, List.setIfInBounds_toArray, List.set_cons_zero, List.set_cons_succ]
                                refine Gl.wpAny_only (i := 5) (by kernel_rfl) rfl rfl (fun K hK => ?_)
                                go_simp
                                refine hK _ _ ?_
                                clear hK K
                                try simp only [Act.put, List.setIfInBounds_toArray, List.set_cons_zero, List.set_cons_succ]
                                refine Gl.wpAny_only (i := 6) (by kernel_rfl) rfl rfl (fun K hK => ?_)
                                refine wp_neq_self 40 _ _ _ rfl #[.int .u32 c.arch, .int .u32 c.nr, .int .u64 c.a0, .int .u64 c.a1, .int .u64 c.a2, .int .u64 c.a3] rfl rfl (run_eqGuard_agg _ _ _ _ _ _ _ (by kernel_rfl)) (neq_call c _) ?_
                                refine hK _ _ ?_
                                clear hK K
                                try simp only [Act.put, List.setIfInBounds_toArray, List.set_cons_zero, List.set_cons_succ]
                                refine wpAny_done (by kernel_rfl) ?_ _
                                go_wp2
                                go_round
                                case rel => exact ⟨j + 1, by omega, by omega, by go_num, by rw [HCN.out]; go_num, hide (below_next HB.out (Below.refl _ _).drew)⟩
                                case measure => simp [intOf]; omega
                              · go_simp
                                refine hK _ _ ?_
                                clear hK K
                                try simp only [Act.put, List.setIfInBounds_toArray, List.set_cons_zero, List.set_cons_succ]
                                refine Gl.wpAny_only (i := 4) (by kernel_rfl) rfl rfl (fun K hK => ?_)
                                go_simp
                                refine hK _ _ ?_
                                clear hK K
                                try simp only [Act.put, List.setIfInBounds_toArray, List.set_cons_zero, List.set_cons_succ]
                                refine Gl.wpAny_only (i := 6) (by kernel_rfl) rfl rfl (fun K hK => ?_)
                                refine wp_neq_self 40 _ _ _ rfl #[.int .u32 c.arch, .int .u32 c.nr, .int .u64 c.a0, .int .u64 c.a1, .int .u64 c.a2, .int .u64 c.a3] rfl rfl (run_eqGuard_agg _ _ _ _ _ _ _ (by kernel_rfl)) (neq_call c _) ?_
                                refine hK _ _ ?_
                                clear hK K
                                try simp only [Act.put, List.setIfInBounds_toArray, List.set_cons_zero, List.set_cons_succ]
                                refine wpAny_done (by kernel_rfl) ?_ _
                                go_wp2
                                go_round
                                case rel => exact ⟨j + 1, by omega, by omega, by go_num, by rw [HCN.out]; go_num, hide (below_next HB.out (Below.refl _ _).drew)⟩
                                case measure => simp [intOf]; omega
                            · have hcnt : mineL m was (s1.log.take (j + 1)) = mineL m was (s1.log.take j) := by
                                rw [hst]
                                simp [hth]
                              have HCN := hide hcnt
                              have hne : ((en.thr : Int) == (m : Int)) = false := by simp; omega
                              clear hcnt hst hen hrow hth
                              go_wp2
                              go_round
                              case rel => exact ⟨j + 1, by omega, by omega, by go_num, by rw [HCN.out], HB⟩
                              case measure => simp [intOf]; omega
                          · as_aux_lemma =>
                            have hfin : (mineL m was (s1.log.take j)).length = 1 := by
                              rw [List.take_of_length_le (by rw [← HLLH.out]; omega)]
                              obtain ⟨e1, hm1, _⟩ := hone
                              rw [hm1]
                              rfl
                            have t2 : ¬ ((j : Int) < LL) := by omega
                            rw [hfin]
                            have HPF := HX5.out.phase (m : Int)
                            rw [phase_of hm, hphz] at HPF
                            clear hfin hrow
                            go_wp2_with fail
                            refine HPF.mono ?_
                            rintro e w' ⟨rfl, hw⟩
                            rw [hw]
                            clear hw
                            go_wp2
                            go_ret
                            exact ⟨rfl, below_next HVB.out HX5.out.below⟩
                      · as_aux_lemma =>
                        clear hend
                        have hone := HDN.out.one
                        obtain ⟨LL, hLL⟩ : ∃ x, x = s1.log.length := ⟨_, rfl⟩
                        have HL := HX.out.logs (by omega)
                        rw [← hLL] at HL
                        have HLLH := hide hLL
                        have hwl : was ≤ LL := by rw [hLL]; exact HDN.out.le
                        have hLk : LL ≤ 20000 := by rw [hLL]; have := HX.out.log; omega
                        clear hLL
                        go_wp2_with fail
                        refine HL.mono ?_
                        rintro e w3 ⟨rfl, hrow, hb3⟩
                        have HX4 := hide (HX.out.on hb3)
                        have HROW := hide hrow
                        clear HL hrow hb3
                        obtain ⟨r8, hr8⟩ : ∃ x, x = wr.heap.size := ⟨_, rfl⟩
                        rw [← hr8] at HROW
                        rw [← hr8]
                        clear hr8
                        have h0m : mineL m was (s1.log.take was) = [] := by
                          unfold mineL
                          rw [List.drop_eq_nil_of_le (by rw [List.length_take]; omega)]
                          rfl
                        go_wp2
                        go_loopw [19, 20] (fun M I w' => ∃ i : Nat, was ≤ i ∧ i ≤ LL ∧ I = .int .i64 i ∧ M = .int .i64 ((mineL m was (s1.log.take i)).length : Nat) ∧ Hid (Below w3.heap.size w3 w')) (fun _ I _ => LL - (intOf I).toNat)
                        case atStart => exact ⟨was, by omega, hwl, rfl, by rw [h0m]; rfl, hide (Below.refl _ _)⟩
                        case round =>
                          obtain ⟨j, hwj, hjl, rfl, rfl, HB⟩ := hrel
                          clear h0m
                          have HX5 := hide (HX4.out.on HB.out)
                          have hrow := (HB.out.block _ (Array.getElem?_eq_some_iff.1 HROW.out).1).trans HROW.out
                          by_cases hlj : j < LL
                          · as_aux_lemma =>
                            obtain ⟨en, hen⟩ : ∃ e, s1.log[j]? = some e := ⟨_, List.getElem?_eq_getElem (by rw [← HLLH.out]; exact hlj)⟩
                            have hst : mineL m was (s1.log.take (j + 1)) = mineL m was (s1.log.take j) ++ [en].filter fun e => e.thr == m := by
                              rw [List.take_add_one, hen]
                              exact mine_app m was _ _ (by rw [List.length_take, ← HLLH.out]; omega)
                            have a1 : wr.cell? ⟨r8, j * 21 + 1, none⟩ = some (.int .i64 (en.thr : Nat)) := log_cell hrow hen 1 (by omega) rfl
                            have t1 : (0 : Int) ≤ j := by omega
                            have t2 : (j : Int) < LL := by omega
                            by_cases hth : en.thr = m
                            · have hcall : en.call = c := by
                                obtain ⟨e1, hm1, hc1⟩ := hone
                                have hmem : en ∈ mineL m was s1.log := by
                                  unfold mineL
                                  rw [List.mem_filter]
                                  refine ⟨?_, by simpa using hth⟩
                                  rw [List.mem_iff_getElem?]
                                  exact ⟨j - was, by rw [List.getElem?_drop, show was + (j - was) = j by omega]; exact hen⟩
                                rw [hm1, List.mem_singleton] at hmem
                                rw [hmem]
                                exact hc1
                              have a2 : wr.cell? ⟨r8, j * 21 + 2, none⟩ = some (.int .u32 (c.arch : Nat)) := log_cell hrow hen 2 (by omega) (by rw [← hcall]; rfl)
                              have a3 : wr.cell? ⟨r8, j * 21 + 2 + 1, none⟩ = some (.int .u32 (c.nr : Nat)) := log_cell hrow hen 3 (by omega) (by rw [← hcall]; rfl)
                              have a4 : wr.cell? ⟨r8, j * 21 + 2 + 2, none⟩ = some (.int .u64 (c.a0 : Nat)) := log_cell hrow hen 4 (by omega) (by rw [← hcall]; rfl)
                              have a5 : wr.cell? ⟨r8, j * 21 + 2 + 3, none⟩ = some (.int .u64 (c.a1 : Nat)) := log_cell hrow hen 5 (by omega) (by rw [← hcall]; rfl)
                              have a6 : wr.cell? ⟨r8, j * 21 + 2 + 4, none⟩ = some (.int .u64 (c.a2 : Nat)) := log_cell hrow hen 6 (by omega) (by rw [← hcall]; rfl)
                              have a7 : wr.cell? ⟨r8, j * 21 + 2 + 5, none⟩ = some (.int .u64 (c.a3 : Nat)) := log_cell hrow hen 7 (by omega) (by rw [← hcall]; rfl)
                              have q0 := keep_cell HX5.out.below k0
                              have q1 := keep_cell HX5.out.below k1
                              have q2 := keep_cell HX5.out.below k2
                              have q3 := keep_cell HX5.out.below k3
                              have q4 := keep_cell HX5.out.below k4
                              have q5 := keep_cell HX5.out.below k5
                              have hcnt : (mineL m was (s1.log.take (j + 1))).length = (mineL m was (s1.log.take j)).length + 1 := by
                                rw [hst, List.length_append]
                                simp [hth]
                              have hle : (mineL m was (s1.log.take j)).length ≤ 20000 := by
                                unfold mineL
                                refine Nat.le_trans (List.length_filter_le _ _) ?_
                                rw [List.length_drop, List.length_take, ← HLLH.out]
                                omega
                              obtain ⟨cn, hcn⟩ : ∃ x, x = (mineL m was (s1.log.take j)).length := ⟨_, rfl⟩
                              rw [← hcn] at hcnt hle
                              simp only [← hcn]
                              have HCN := hide hcnt
                              rw [hth] at a1
                              clear hcnt hcn hth hcall hst hen hrow
                              replace a2 : wr.drew.cell? _ = _ := a2
                              replace a3 : wr.drew.cell? _ = _ := a3
                              replace a4 : wr.drew.cell? _ = _ := a4
                              replace a5 : wr.drew.cell? _ = _ := a5
                              replace a6 : wr.drew.cell? _ = _ := a6
                              replace a7 : wr.drew.cell? _ = _ := a7
                              replace q0 : wr.drew.cell? _ = _ := q0
                              replace q1 : wr.drew.cell? _ = _ := q1
                              replace q2 : wr.drew.cell? _ = _ := q2
                              replace q3 : wr.drew.cell? _ = _ := q3
                              replace q4 : wr.drew.cell? _ = _ := q4
                              replace q5 : wr.drew.cell? _ = _ := q5
                              go_wp2_with fail
                              refine wp_region_any (by kernel_rfl) ?_
                              change wpAny _ _ _ _ _ _ _ (World.drew _)
                              refine Gl.wpAny_takeOf 0 (some 142) (.slice (some ⟨r8, 0, none⟩) LL LL) rfl rfl (by kernel_rfl) (by kernel_rfl) (by kernel_rfl) (fun _ _ _ h => h) (Or.inl ⟨by rfl, ?_⟩) ?_
                              · intro wx
                                go_simp
                              try simp only [Act.put, List.setIfInBounds_toArray, List.set_cons_zero, List.set_cons_succ]
                              refine Gl.wpAny_takeOf 1 (some 143) (.int .i64 (j : Nat)) rfl rfl (by kernel_rfl) (by kernel_rfl) (by kernel_rfl) (fun _ _ _ h => h) (Or.inl ⟨by rfl, ?_⟩) ?_
                              · intro wx
                                go_simp
                              try simp only [Act.put, List.setIfInBounds_toArray, List.set_cons_zero, List.set_cons_succ]
                              refine Gl.wpAny_takeOf 2 (some 144) (Value.pointer (some ⟨r8, j * 21, none⟩)) rfl rfl (by kernel_rfl) (by kernel_rfl) (by kernel_rfl) (fun _ _ _ h => h) (Or.inl ⟨by rfl, ?_⟩) ?_
                              · intro wx
                                go_simp
                              try simp only [Act.put, List.setIfInBounds_toArray, List.set_cons_zero, List.set_cons_succ]
                              refine Gl.wpAny_takeOf 3 (some 145) (Value.pointer (some ⟨r8, j * 21 + 2, none⟩)) rfl rfl (by kernel_rfl) (by kernel_rfl) (by kernel_rfl) (fun _ _ _ h => h) (Or.inl ⟨by rfl, ?_⟩) ?_
                              · intro wx
                                go_simp
                              try simp only [Act.put, List.setIfInBounds_toArray, List.set_cons_zero, List.set_cons_succ]
                              refine wpAny_two (i := 4) (j := 5) (by kernel_rfl) rfl rfl rfl rfl (fun K hK => ?_) (fun K hK => ?_)
                              · go_simp
                                refine hK _ _ ?_
                                clear hK K
                                try simp only [Act.put, List.setIfInBounds_toArray, List.set_cons_zero, List.set_cons_succ]
                                refine Gl.wpAny_only (i := 5) (by kernel_rfl) rfl rfl (fun K hK => ?_)
                                go_simp
                                refine hK _ _ ?_
                                clear hK K
                                try simp only [Act.put, List.setIfInBounds_toArray, List.set_cons_zero, List.set_cons_succ]
                                refine Gl.wpAny_only (i := 6) (by kernel_rfl) rfl rfl (fun K hK => ?_)
                                refine wp_neq_self 40 _ _ _ rfl #[.int .u32 c.arch, .int .u32 c.nr, .int .u64 c.a0, .int .u64 c.a1, .int .u64 c.a2, .int .u64 c.a3] rfl rfl (run_eqGuard_agg _ _ _ _ _ _ _ (by kernel_rfl)) (neq_call c _) ?_
                                refine hK _ _ ?_
                                clear hK K
                                try simp only [Act.put, List.setIfInBounds_toArray, List.set_cons_zero, List.set_cons_succ]
                                refine wpAny_done (by kernel_rfl) ?_ _
                                go_wp2
                                go_round
                                case rel => exact ⟨j + 1, by omega, by omega, by go_num, by rw [HCN.out]; go_num, hide (below_next HB.out (Below.refl _ _).drew)⟩
                                case measure => simp [intOf]; omega
                              · go_simp
                                refine hK _ _ ?_
                                clear hK K
                                try simp only [Act.put, List.setIfInBounds_toArray, List.set_cons_zero, List.set_cons_succ]
                                refine Gl.wpAny_only (i := 4) (by kernel_rfl) rfl rfl (fun K hK => ?_)
                                go_simp
                                refine hK _ _ ?_
                                clear hK K
                                try simp only [Act.put, List.setIfInBounds_toArray, List.set_cons_zero, List.set_cons_succ]
                                refine Gl.wpAny_only (i := 6) (by kernel_rfl) rfl rfl (fun K hK => ?_)
                                refine wp_neq_self 40 _ _ _ rfl #[.int .u32 c.arch, .int .u32 c.nr, .int .u64 c.a0, .int .u64 c.a1, .int .u64 c.a2, .int .u64 c.a3] rfl rfl (run_eqGuard_agg _ _ _ _ _ _ _ (by kernel_rfl)) (neq_call c _) ?_
                                refine hK _ _ ?_
                                clear hK K
                                try simp only [Act.put, List.setIfInBounds_toArray, List.set_cons_zero, List.set_cons_succ]
                                refine wpAny_done (by kernel_rfl) ?_ _
                                go_wp2
                                go_round
                                case rel => exact ⟨j + 1, by omega, by omega, by go_num, by rw [HCN.out]; go_num, hide (below_next HB.out (Below.refl _ _).drew)⟩
                                case measure => simp [intOf]; omega
                            · have hcnt : mineL m was (s1.log.take (j + 1)) = mineL m was (s1.log.take j) := by
                                rw [hst]
                                simp [hth]
                              have HCN := hide hcnt
                              have hne : ((en.thr : Int) == (m : Int)) = false := by simp; omega
                              clear hcnt hst hen hrow hth
                              go_wp2
                              go_round
                              case rel => exact ⟨j + 1, by omega, by omega, by go_num, by rw [HCN.out], HB⟩
                              case measure => simp [intOf]; omega
                          · as_aux_lemma =>
                            have hfin : (mineL m was (s1.log.take j)).length = 1 := by
                              rw [List.take_of_length_le (by rw [← HLLH.out]; omega)]
                              obtain ⟨e1, hm1, _⟩ := hone
                              rw [hm1]
                              rfl
                            have t2 : ¬ ((j : Int) < LL) := by omega
                            rw [hfin]
                            have HPF := HX5.out.phase (m : Int)
                            rw [phase_of hm, hphz] at HPF
                            clear hfin hrow
                            go_wp2_with fail
                            refine HPF.mono ?_
                            rintro e w' ⟨rfl, hw⟩
                            rw [hw]
                            clear hw
                            go_wp2_with fail
                            refine HPF.mono ?_
                            rintro e w' ⟨rfl, hw⟩
                            rw [hw]
                            clear hw
                            go_wp2
                            go_ret
                            exact ⟨rfl, below_next HVB.out HX5.out.below⟩
                · as_aux_lemma =>
                  rw [errV_pos he] at HE
                  obtain ⟨f, hfe⟩ : ∃ f, f = (enterW m c s).2 := ⟨_, rfl⟩
                  rw [← hfe] at HE
                  clear he hfe hn
                  go_wp2_with fail
                  refine HE.mono ?_
                  rintro e w1 ⟨rfl, h1⟩
                  go_wp2
                  go_ret
                  exact ⟨rfl, below_next HVB.out h1.below⟩
              · as_aux_lemma =>
                rcases show n < 0 ∨ (¬ n < 0 ∧ 3 ≤ n) by omega with h0 | ⟨h0, h3⟩
                · clear hn
                  go_wp2
                  go_ret
                  exact ⟨rfl, below_next HVB.out HX1.out.below⟩
                · clear hn
                  go_wp2
                  go_ret
                  exact ⟨rfl, below_next HVB.out HX1.out.below⟩
        · as_aux_lemma =>
          have HN := HNE hf W1 H1.out
          rw [errV_pos hf] at HN
          clear HNE HNO HPQ HLB HLT hlb hlt hf
          go_wp2_with fail
          refine HN.mono ?_
          rintro e W3 ⟨rfl, hb3⟩
          go_wp2
          go_ret
          exact ⟨rfl, below_next (below_next HVB.out H1.out) hb3⟩
end Go.Proofs.YtlgghomjlhnijaaGreat

/- SameLog of two alike; entered. -/
namespace Go.Proofs.YtlgghomjlhnijaaGreat
open Go.RowKit Mm

theorem log_range {W : World} {b : Nat} {l : List EN} (h : W.heap[b]? = some (.cells (flatE l).toArray 54 (0, 0))) {i : Nat} {e : EN} (he : l[i]? = some e) : W.rangeAt b (i * 21) (entE e).toList := fun j v hv => log_cell h he j (by exact (List.getElem?_eq_some_iff.1 hv).1) hv
set_option maxHeartbeats 2000000 in
set_option maxRecDepth 20000 in
theorem sameLog_any (l : List EN) (bA bB : Nat) (w : World) (hA : w.heap[bA]? = some (.cells (flatE l).toArray 54 (0, 0))) (hB : w.heap[bB]? = some (.cells (flatE l).toArray 54 (0, 0))) (hl : l.length ≤ 1000000) :
    Calls Tryz.prog 18 #[.slice (some ⟨bA, 0, none⟩) l.length l.length, .slice (some ⟨bB, 0, none⟩) l.length l.length] w fun e w' => e = .returned (.bool true) ∧ Below w.heap.size w w' := by
  obtain ⟨L, hL⟩ : ∃ x, x = l.length := ⟨_, rfl⟩
  rw [← hL] at hl
  rw [← hL]
  have HL := hide hL
  have HA := hide hA
  have HBB := hide hB
  clear hL hA hB
  go_enter Tryz.func18, Tryz.ntmps18
  go_wp2
  go_loopw [5] (fun I w' => ∃ j : Nat, j ≤ L ∧ I = .int .i64 j ∧ Hid (Below w.heap.size w w')) (fun I _ => L - (intOf I).toNat)
  case atStart => exact ⟨0, by omega, rfl, hide (Below.refl _ _)⟩
  case round =>
    obtain ⟨j, hj, rfl, HB⟩ := hrel
    have t1 : (0 : Int) ≤ j := by omega
    by_cases hlj : j < L
    · have t2 : (j : Int) < L := by omega
      obtain ⟨en, hen⟩ : ∃ e, l[j]? = some e := ⟨_, List.getElem?_eq_getElem (by rw [← HL.out]; exact hlj)⟩
      have rgA : wr.drew.rangeAt bA (j * 21) (entE en).toList := log_range (W := wr.drew) ((HB.out.block _ (Array.getElem?_eq_some_iff.1 HA.out).1).trans HA.out) hen
      have rgB : wr.drew.rangeAt bB (j * 21) (entE en).toList := log_range (W := wr.drew) ((HB.out.block _ (Array.getElem?_eq_some_iff.1 HBB.out).1).trans HBB.out) hen
      clear hen
      go_wp2_with fail
      refine wp_region_any (by kernel_rfl) ?_
      change wpAny _ _ _ _ _ _ _ (World.drew _)
      refine Gl.wpAny_takeOf 0 (some 17) (.slice (some ⟨bA, 0, none⟩) L L) rfl rfl (by kernel_rfl) (by kernel_rfl) (by kernel_rfl) (fun _ _ _ h => h) (Or.inl ⟨by rfl, ?_⟩) ?_
      · intro wx
        go_simp
      try simp only [Act.put, List.setIfInBounds_toArray, List.set_cons_zero, List.set_cons_succ]
      refine Gl.wpAny_takeOf 1 (some 18) (.int .i64 (j : Nat)) rfl rfl (by kernel_rfl) (by kernel_rfl) (by kernel_rfl) (fun _ _ _ h => h) (Or.inl ⟨by rfl, ?_⟩) ?_
      · intro wx
        go_simp
      try simp only [Act.put, List.setIfInBounds_toArray, List.set_cons_zero, List.set_cons_succ]
      refine Gl.wpAny_takeOf 2 (some 19) (Value.pointer (some ⟨bA, j * 21, none⟩)) rfl rfl (by kernel_rfl) (by kernel_rfl) (by kernel_rfl) (fun _ _ _ h => h) (Or.inl ⟨by rfl, ?_⟩) ?_
      · intro wx
        go_simp
      try simp only [Act.put, List.setIfInBounds_toArray, List.set_cons_zero, List.set_cons_succ]
      refine Gl.wpAny_takeOf 4 (some 21) (.slice (some ⟨bB, 0, none⟩) L L) rfl rfl (by kernel_rfl) (by kernel_rfl) (by kernel_rfl) (fun _ _ _ h => h) (Or.inl ⟨by rfl, ?_⟩) ?_
      · intro wx
        go_simp
      try simp only [Act.put, List.setIfInBounds_toArray, List.set_cons_zero, List.set_cons_succ]
      refine Gl.wpAny_takeOf 5 (some 22) (.int .i64 (j : Nat)) rfl rfl (by kernel_rfl) (by kernel_rfl) (by kernel_rfl) (fun _ _ _ h => h) (Or.inl ⟨by rfl, ?_⟩) ?_
      · intro wx
        go_simp
      try simp only [Act.put, List.setIfInBounds_toArray, List.set_cons_zero, List.set_cons_succ]
      refine Gl.wpAny_takeOf 6 (some 23) (Value.pointer (some ⟨bB, j * 21, none⟩)) rfl rfl (by kernel_rfl) (by kernel_rfl) (by kernel_rfl) (fun _ _ _ h => h) (Or.inl ⟨by rfl, ?_⟩) ?_
      · intro wx
        go_simp
      try simp only [Act.put, List.setIfInBounds_toArray, List.set_cons_zero, List.set_cons_succ]
      refine wpAny_two (i := 3) (j := 7) (by kernel_rfl) rfl rfl rfl rfl (fun K hK => ?_) (fun K hK => ?_)
      · refine wp_load_mid (P := Tryz.prog) 54 _ rfl bA (j * 21) rfl (entE en).toList _ rgA Tryz.underlying54 rfl size_entry ?_
        refine hK _ _ ?_
        clear hK K
        try simp only [Act.put, List.setIfInBounds_toArray, List.set_cons_zero, List.set_cons_succ]
        refine Gl.wpAny_only (i := 7) (by kernel_rfl) rfl rfl (fun K hK => ?_)
        refine wp_load_mid (P := Tryz.prog) 54 _ rfl bB (j * 21) rfl (entE en).toList _ rgB Tryz.underlying54 rfl size_entry ?_
        refine hK _ _ ?_
        clear hK K
        try simp only [Act.put, List.setIfInBounds_toArray, List.set_cons_zero, List.set_cons_succ]
        refine Gl.wpAny_only (i := 8) (by kernel_rfl) rfl rfl (fun K hK => ?_)
        refine wp_neq_self 54 _ _ _ rfl (entE en) rfl rfl (run_eqGuard_agg _ _ _ _ _ _ _ (by kernel_rfl)) (neq_entry en _) ?_
        refine hK _ _ ?_
        clear hK K
        try simp only [Act.put, List.setIfInBounds_toArray, List.set_cons_zero, List.set_cons_succ]
        refine wpAny_done (by kernel_rfl) ?_ _
        go_wp2
        go_round
        case rel => exact ⟨j + 1, by omega, by go_num, hide (below_next HB.out (Below.refl _ _).drew)⟩
        case measure => simp [intOf]; omega
      · refine wp_load_mid (P := Tryz.prog) 54 _ rfl bB (j * 21) rfl (entE en).toList _ rgB Tryz.underlying54 rfl size_entry ?_
        refine hK _ _ ?_
        clear hK K
        try simp only [Act.put, List.setIfInBounds_toArray, List.set_cons_zero, List.set_cons_succ]
        refine Gl.wpAny_only (i := 3) (by kernel_rfl) rfl rfl (fun K hK => ?_)
        refine wp_load_mid (P := Tryz.prog) 54 _ rfl bA (j * 21) rfl (entE en).toList _ rgA Tryz.underlying54 rfl size_entry ?_
        refine hK _ _ ?_
        clear hK K
        try simp only [Act.put, List.setIfInBounds_toArray, List.set_cons_zero, List.set_cons_succ]
        refine Gl.wpAny_only (i := 8) (by kernel_rfl) rfl rfl (fun K hK => ?_)
        refine wp_neq_self 54 _ _ _ rfl (entE en) rfl rfl (run_eqGuard_agg _ _ _ _ _ _ _ (by kernel_rfl)) (neq_entry en _) ?_
        refine hK _ _ ?_
        clear hK K
        try simp only [Act.put, List.setIfInBounds_toArray, List.set_cons_zero, List.set_cons_succ]
        refine wpAny_done (by kernel_rfl) ?_ _
        go_wp2
        go_round
        case rel => exact ⟨j + 1, by omega, by go_num, hide (below_next HB.out (Below.refl _ _).drew)⟩
        case measure => simp [intOf]; omega
    · have t2 : ¬ ((j : Int) < L) := by omega
      go_wp2
      go_ret
      exact ⟨rfl, HB.out⟩
/-- What entered answers. -/
def Entered (p : POL) (g gm : Nat) (P : PV) (K : Nat) (V : World) (n : Int) (e : Ending) (w' : World) : Prop := ∃ b lv' s', e = .returned (.bool b) ∧ WL p g gm P lv' s' (K + 90) V w' ∧ (b = true → 0 ≤ n ∧ n < 3 ∧ (s'.T n.toNat).phase = 3)
set_option maxHeartbeats 4000000 in
set_option maxRecDepth 20000 in
theorem entered_any {p : POL} {g gm : Nat} {P : PV} {lv : Value} {s : WS} {K : Nat} {V X : World} (h : WL p g gm P lv s K V X) (hp : polF p = 0) (hq : PolOk p) (hK : K ≤ 800000) (n : Int) {c : KL} (hc : KlOk c) :
    Calls Tryz.prog 15 #[.pointer (some ⟨g, 0, none⟩), .int .i64 n, klV c] X fun e w' => Entered p g gm P K V n e w' := by
  have HX0 := hide (h.on (box_below X (.cells (klC c) 40)))
  have HE := HX0.out.enter n hc
  have HMON := hide (show ∀ (lv1 : Value) (s1 : WS) (K1 : Nat) (w' : World), WL p g gm P lv1 s1 K1 V w' → K1 ≤ K + 90 → Entered p g gm P K V n (.returned (.bool false)) w' from fun lv1 s1 K1 w' h1 h2 => ⟨false, lv1, s1, rfl, h1.weak h2, fun e => by cases e⟩)
  unfold klV klC at HE ⊢
  unfold klC at HX0
  by_cases hn : 0 ≤ n ∧ n < 3
  · obtain ⟨m, rfl⟩ : ∃ k : Nat, n = k := ⟨n.toNat, by omega⟩
    have hm : m < 3 := by omega
    have m1 : (0 : Int) ≤ m := hn.1
    have m2 : (m : Int) < 3 := hn.2
    have m3 : ¬ ((m : Int) < 0) := by omega
    have m4 : ¬ ((3 : Int) ≤ m) := by omega
    have HTRUE := hide (show ∀ (lv1 : Value) (s1 : WS) (K1 : Nat) (w' : World), WL p g gm P lv1 s1 K1 V w' → K1 ≤ K + 90 → (s1.T m).phase = 3 → Entered p g gm P K V m (.returned (.bool true)) w' from fun lv1 s1 K1 w' h1 h2 h3 => ⟨true, lv1, s1, rfl, h1.weak h2, fun _ => ⟨hn.1, hn.2, by rw [Int.toNat_natCast]; exact h3⟩⟩)
    by_cases he : (enterW m c s).2 = 0
    · rw [he, errV_zero] at HE
      obtain ⟨s0, hs0⟩ : ∃ y, y = (enterW m c s).1 := ⟨_, rfl⟩
      rw [← hs0] at HE
      clear he hn hs0 h
      go_enter Tryz.func15, Tryz.ntmps15
      go_wp2_with fail
      refine HE.mono ?_
      rintro e w1 ⟨rfl, h1⟩
      have HW1 := hide h1
      clear HE h1 HX0
      go_wp2
      go_loopw [7] (fun I w' => ∃ (i : Nat) (lv1 : Value) (s1 : WS), i ≤ 90 ∧ I = .int .i64 i ∧ Hid (WL p g gm P lv1 s1 (K + i) V w')) (fun I _ => 90 - (intOf I).toNat)
      case atStart => exact ⟨0, _, _, by omega, rfl, HW1⟩
      case round =>
        obtain ⟨i, lv1, s1, hi90, rfl, HX⟩ := hrel
        clear HW1
        have HPH := HX.out.phase (m : Int)
        rw [phase_of hm] at HPH
        by_cases hl90 : i < 90
        · have e90 : (i : Int) < 90 := by omega
          have HS := HX.out.step hp hq (by omega) (m : Int)
          obtain ⟨⟨s2, sb, sf⟩, hr⟩ : ∃ r, r = stepW p m s1 := ⟨_, rfl⟩
          rw [← hr] at HS
          simp only at HS
          obtain ⟨er, her⟩ : ∃ er, er = errV sf := ⟨_, rfl⟩
          rw [← her] at HS
          clear hr her
          by_cases hp1 : (s1.T m).phase = 1
          · as_aux_lemma =>
            rw [hp1] at HPH
            go_wp2_with fail
            refine HPH.mono ?_
            rintro e w' ⟨rfl, hw⟩
            rw [hw]
            clear hw
            go_wp2_with fail
            refine HS.mono ?_
            rintro e w4 ⟨rfl, lv4, h4⟩
            go_wp2
            go_round
            case rel => exact ⟨i + 1, lv4, s2, by omega, by go_num, hide h4⟩
            case measure => simp [intOf]; omega
          · by_cases hp2 : (s1.T m).phase = 2
            · as_aux_lemma =>
              rw [hp2] at HPH
              go_wp2_with fail
              refine HPH.mono ?_
              rintro e w' ⟨rfl, hw⟩
              rw [hw]
              clear hw
              go_wp2_with fail
              refine HPH.mono ?_
              rintro e w' ⟨rfl, hw⟩
              rw [hw]
              clear hw
              go_wp2_with fail
              refine HS.mono ?_
              rintro e w4 ⟨rfl, lv4, h4⟩
              go_wp2
              go_round
              case rel => exact ⟨i + 1, lv4, s2, by omega, by go_num, hide h4⟩
              case measure => simp [intOf]; omega
            · obtain ⟨ph, hph⟩ : ∃ y, y = (s1.T m).phase := ⟨_, rfl⟩
              rw [← hph] at HPH hp1 hp2
              have b1 : ((ph : Int) == 1) = false := by simp; omega
              have b2 : ((ph : Int) == 2) = false := by simp; omega
              have HPP := hide hph
              clear hp1 hp2 hph HS
              by_cases hp3 : ph = 3
              · as_aux_lemma =>
                have HT := hide (HTRUE.out lv1 s1 (K + i) wr HX.out (by omega) (by rw [← HPP.out]; exact hp3))
                rw [hp3] at HPH b1 b2
                go_wp2_with fail
                refine HPH.mono ?_
                rintro e w' ⟨rfl, hw⟩
                rw [hw]
                clear hw
                go_wp2_with fail
                refine HPH.mono ?_
                rintro e w' ⟨rfl, hw⟩
                rw [hw]
                clear hw
                go_wp2_with fail
                refine HPH.mono ?_
                rintro e w' ⟨rfl, hw⟩
                rw [hw]
                clear hw
                go_wp2
                go_ret
                exact HT.out
              · as_aux_lemma =>
                have HT := hide (HMON.out lv1 s1 (K + i) wr HX.out (by omega))
                have b3 : ((ph : Int) == 3) = false := by simp; omega
                clear hp3
                go_wp2_with fail
                refine HPH.mono ?_
                rintro e w' ⟨rfl, hw⟩
                rw [hw]
                clear hw
                go_wp2_with fail
                refine HPH.mono ?_
                rintro e w' ⟨rfl, hw⟩
                rw [hw]
                clear hw
                go_wp2_with fail
                refine HPH.mono ?_
                rintro e w' ⟨rfl, hw⟩
                rw [hw]
                clear hw
                go_wp2
                go_ret
                exact HT.out
        · obtain rfl : i = 90 := by omega
          have e90 : ¬ ((90 : Int) < 90) := by omega
          by_cases hp3 : (s1.T m).phase = 3
          · as_aux_lemma =>
            have HT := hide (HTRUE.out lv1 s1 (K + 90) wr HX.out (by omega) hp3)
            rw [hp3] at HPH
            go_wp2_with fail
            refine HPH.mono ?_
            rintro e w' ⟨rfl, hw⟩
            rw [hw]
            clear hw
            go_wp2
            go_ret
            exact HT.out
          · as_aux_lemma =>
            have HT := hide (HMON.out lv1 s1 (K + 90) wr HX.out (by omega))
            obtain ⟨ph, hph⟩ : ∃ y, y = (s1.T m).phase := ⟨_, rfl⟩
            rw [← hph] at HPH hp3
            have b3 : ((ph : Int) == 3) = false := by simp; omega
            clear hp3 hph
            go_wp2_with fail
            refine HPH.mono ?_
            rintro e w' ⟨rfl, hw⟩
            rw [hw]
            clear hw
            go_wp2
            go_ret
            exact HT.out
    · as_aux_lemma =>
      rw [errV_pos he] at HE
      obtain ⟨f, hfe⟩ : ∃ f, f = (enterW m c s).2 := ⟨_, rfl⟩
      rw [← hfe] at HE
      clear he hfe hn h
      go_enter Tryz.func15, Tryz.ntmps15
      go_wp2_with fail
      refine HE.mono ?_
      rintro e w1 ⟨rfl, h1⟩
      go_wp2
      go_ret
      exact HMON.out lv _ K _ h1 (by omega)
  · as_aux_lemma =>
    rcases show n < 0 ∨ (¬ n < 0 ∧ 3 ≤ n) by omega with h0 | ⟨h0, h3⟩
    · clear hn h HE
      go_enter Tryz.func15, Tryz.ntmps15
      go_wp2
      go_ret
      exact HMON.out lv s K _ HX0.out (by omega)
    · clear hn h HE
      go_enter Tryz.func15, Tryz.ntmps15
      go_wp2
      go_ret
      exact HMON.out lv s K _ HX0.out (by omega)
end Go.Proofs.YtlgghomjlhnijaaGreat
