/- WardSays, for any policy and acts. -/
import Derived.Test.YtklibmijiecbfaaGreatK41
import Derived.Test.YtklibmijiecbfaaGreatK42
import Derived.Test.YtklibmijiecbfaaGreatK43
import Derived.Test.YtklibmijiecbfaaGreatK44
import Derived.Test.YtklibmijiecbfaaGreatK47
import Derived.Test.YtklibmijiecbfaaGreatK36
namespace Go.Proofs.YtklibmijiecbfaaGreat
open Go.RowKit Mm

theorem light_few2 {p : POL} (h : lightB p = true) : p.rules.length ≤ 14 ∧ ∀ r ∈ p.rules, r.conds.length ≤ 6 := by
 unfold lightB at h
 rw [Bool.and_eq_true, decide_eq_true_eq, List.all_eq_true] at h
 refine ⟨h.1, fun r hr => ?_⟩
 have := h.2 r hr
 unfold lightR at this
 rw [Bool.and_eq_true, decide_eq_true_eq] at this
 exact this.1
theorem lightA_few {n : Nat} {L : Nat → AC} (h : Mm.lightR n L 60 = true) : n ≤ 60 ∧ ∀ i, i < n → (L i).s.size ≤ 200 := by
 unfold Mm.lightR at h
 rw [Bool.and_eq_true, decide_eq_true_eq, List.all_eq_true] at h
 exact ⟨by omega, fun i hi => by simpa using h.2 i (List.mem_range.2 hi)⟩
set_option maxHeartbeats 4000000 in
set_option maxRecDepth 20000 in
theorem wardSays_any (p : POL) (oa : Option Addr) (cap : Nat) (oc : Option Addr) (n cap2 : Nat) (hn : n ≤ 9223372036854775807) (L : Nat → AC) (w : World) (hp : IsPol oa cap p w) (hl : IsActs oc n L w) :
  Calls Tryz.prog 3 #[polV p oa cap, .slice oc n cap2] w fun e w' => e = .returned (.bool true) ∧ Below w.heap.size w w' := by
 obtain ⟨np, hnp⟩ : ∃ n, n = p.rules.length := ⟨_, rfl⟩
 obtain ⟨V, hV, hB, hsz, hx⟩ := one_box w #[.slice oa p.rules.length cap, .int .i64 p.els.kind, .int .i64 p.els.errno] 26
 have x0 := hx 0
 have x1 := hx 1
 have x2 := hx 2
 simp only [List.getElem?_toArray, List.getElem?_cons_zero, List.getElem?_cons_succ] at x0 x1 x2
 have HP := hide hp
 have HA := hide hl
 have HLT := fun W h => lightPol_any p oa cap W h
 have HPF := fun W h => dpolF_any p oa cap W h
 have HLA := fun W h => light_any oc n cap2 hn L 60 W h
 have HMD := fun W hpol hB => modelled_any p oa cap w.heap.size W hpol hB
 clear hx hp hl
 obtain ⟨lz, hlz⟩ : ∃ z, z = lightB p := ⟨_, rfl⟩
 rw [← hlz] at HLT
 have HLZ := hide hlz
 obtain ⟨la, hla⟩ : ∃ z, z = Mm.lightR n L 60 := ⟨_, rfl⟩
 rw [← hla] at HLA
 have HLAZ := hide hla
 clear hlz hla
 obtain ⟨ak, hak⟩ : ∃ x, x = p.els.kind := ⟨_, rfl⟩
 obtain ⟨ae, hae⟩ : ∃ x, x = p.els.errno := ⟨_, rfl⟩
 unfold polV at HLT HPF HMD ⊢
 rw [← hnp, ← hak, ← hae] at hV HLT HPF HMD ⊢
 rw [← hnp] at x0
 rw [← hak] at x1
 rw [← hae] at x2
 have HNP := hide (And.intro hnp (And.intro hak hae))
 clear hnp hak hae
 go_enter Tryz.func3, Tryz.ntmps3
 go_wp2_with fail
 rw [← hV]
 obtain ⟨b2, hb2⟩ : ∃ b, b = w.heap.size := ⟨_, rfl⟩
 rw [← hb2] at x0 x1 x2 ⊢
 have HB2 := hide hb2
 clear hV hb2
 refine (wards_any _).mono ?_
 rintro e W1 ⟨rfl, hb1⟩
 have HL1 := hide (show w.heap.size < W1.heap.size by have := hb1.size; omega)
 replace x0 := keep_cell hb1 x0
 replace x1 := keep_cell hb1 x1
 replace x2 := keep_cell hb1 x2
 have HB := hide (below_next hB hb1)
 clear hb1 hB hsz
 go_wp2_with fail
 refine (HLT _ (HP.out.on HB.out)).mono ?_
 rintro e W2 ⟨rfl, hb1⟩
 have HLB2 := hide (show w.heap.size < W2.heap.size from Nat.lt_of_lt_of_le HL1.out hb1.size)
 replace x0 := keep_cell hb1 x0
 replace x1 := keep_cell hb1 x1
 replace x2 := keep_cell hb1 x2
 replace HB := hide (below_next HB.out hb1)
 clear hb1 HLT
 cases lz with
 | false =>
  go_wp2
  go_ret
  exact ⟨rfl, HB.out⟩
 | true =>
  go_wp2_with fail
  refine (HLA _ (HA.out.on HB.out)).mono ?_
  rintro e W2' ⟨rfl, hw2⟩
  rw [hw2]
  clear hw2 W2' HLA
  cases la with
  | false =>
   go_wp2
   go_ret
   exact ⟨rfl, HB.out⟩
  | true =>
   have hfew := light_few2 HLZ.out.symm
   have HFA := hide (lightA_few HLAZ.out.symm)
   have HFEW := hide hfew.1
   have HFEWR := hide hfew.2
   have HOW := fun W h => own2_any p hfew.1 hfew.2 oa cap W h
   unfold polV at HOW
   rw [← HNP.out.1, ← HNP.out.2.1, ← HNP.out.2.2] at HOW
   clear hfew HLZ HLAZ
   go_wp2_with fail
   refine (HOW W2 (HP.out.on HB.out)).mono ?_
   rintro e W3 ⟨⟨ob, cb, rfl, hI3, hO3⟩, hb3⟩
   have HI3 := hide hI3
   have HO3 := hide hO3
   have HB3 := hide (below_next HB.out hb3)
   have HLB := hide (And.intro hb3.size HB.out.size)
   replace x0 := keep_cell hb3 x0
   replace x1 := keep_cell hb3 x1
   replace x2 := keep_cell hb3 x2
   have hbx := box_below W3 (.cells #[.slice ob np cb, .int .i64 ak, .int .i64 ae] 26)
   replace x0 := keep_cell hbx x0
   replace x1 := keep_cell hbx x1
   replace x2 := keep_cell hbx x2
   have y0 : (W3.alloc (.cells #[.slice ob np cb, .int .i64 ak, .int .i64 ae] 26)).cell? ⟨W3.heap.size, 0, none⟩ = some (.slice ob np cb) := cell_of_row _ _ 0 _ _ _ (heap_alloc_new W3 _)
   have y1 : (W3.alloc (.cells #[.slice ob np cb, .int .i64 ak, .int .i64 ae] 26)).cell? ⟨W3.heap.size, 1, none⟩ = some (.int .i64 ak) := cell_of_row _ _ 1 _ _ _ (heap_alloc_new W3 _)
   have y2 : (W3.alloc (.cells #[.slice ob np cb, .int .i64 ak, .int .i64 ae] 26)).cell? ⟨W3.heap.size, 2, none⟩ = some (.int .i64 ae) := cell_of_row _ _ 2 _ _ _ (heap_alloc_new W3 _)
   obtain ⟨W4, hW4⟩ : ∃ W4, W4 = W3.alloc (.cells #[.slice ob np cb, .int .i64 ak, .int .i64 ae] 26) := ⟨_, rfl⟩
   rw [← hW4] at x0 x1 x2 y0 y1 y2
   have HB4 := hide (show Below w.heap.size w W4 by rw [hW4]; exact below_next HB3.out hbx)
   have HB34 := hide (show Below W3.heap.size W3 W4 by rw [hW4]; exact hbx)
   have HI4 := hide (HI3.out.on HB34.out)
   have HS4 := hide (show W4.heap.size = W3.heap.size + 1 by rw [hW4, World.size_alloc])
   obtain ⟨b6, hb6⟩ : ∃ b, b = W3.heap.size := ⟨_, rfl⟩
   rw [← hb6] at y0 y1 y2
   have HB6 := hide hb6
   have HW4 := hide hW4
   clear hI3 hO3 hb3 hbx hW4 hb6 HOW
   go_wp2_with fail
   rw [← HW4.out, ← HB6.out]
   go_wp2_with fail
   by_cases hpf : polF p = 0
   ·
    as_aux_lemma =>
    have HN := new_ok p hpf ob cb W4 HI4.out
    unfold polV at HN
    rw [← HNP.out.1, ← HNP.out.2.1, ← HNP.out.2.2] at HN
    rw [hpf] at HPF
    have HPQ := hide (And.intro hpf (pol_ok hpf HP.out.ok))
    clear hpf
    refine HN.mono ?_
    rintro e W5 ⟨g, gm, P, rfl, hN⟩
    have HNX := hide hN
    replace x0 := keep_cell hN.below x0
    replace x1 := keep_cell hN.below x1
    replace x2 := keep_cell hN.below x2
    replace y0 := keep_cell hN.below y0
    have HB5 := hide (below_next HB4.out hN.below)
    clear hN HN y1 y2
    go_wp2_with fail
    refine (HPF W5 (HP.out.on HB5.out)).mono ?_
    rintro e W6 ⟨rfl, hb6⟩
    replace x0 := keep_cell hb6 x0
    replace x1 := keep_cell hb6 x1
    replace x2 := keep_cell hb6 x2
    replace y0 := keep_cell hb6 y0
    have HB56 := hide hb6
    have HB36 := hide (below_next HB34.out (below_next HNX.out.below hb6))
    have HBw6 := hide (below_next HB5.out hb6)
    clear hb6 HPF
    obtain ⟨es, hes, hwr⟩ := WrX.start (T := W3.heap.size) HO3.out rfl HB36.out
    have HEL := hide (show es.length = np by rw [HNP.out.1, ← hes, List.length_map])
    have HWR := hide hwr
    have HFEW6 := hide (show ∀ e ∈ es, e.1.conds.length ≤ 6 from fun e he => HFEWR.out _ (by rw [← hes]; exact List.mem_map.2 ⟨e, he, rfl⟩))
    have HLOW := hide (show w.heap.size ≤ W2.heap.size ∧ W2.heap.size ≤ W3.heap.size ∧ b2 < W2.heap.size ∧ W3.heap.size ≤ b6 ∧ W3.heap.size ≤ W4.heap.size from ⟨HLB.out.2, HLB.out.1, by have := HB2.out; have := HLB2.out; omega, by rw [HB6.out]; exact Nat.le_refl _, by rw [HS4.out]; omega⟩)
    have hnp14 : np ≤ 14 := by have := HFEW.out; rw [HNP.out.1]; exact this
    clear hes hwr
    go_wp2_with fail
    go_loopw [10] (fun I w' => ∃ i : Nat, i ≤ np ∧ I = .int .i64 i ∧ Hid (WrX W2.heap.size W3.heap.size ob es W6 w')) (fun I _ => np - (intOf I).toNat)
    case atStart => exact ⟨0, by omega, rfl, HWR⟩
    case round =>
     clear HWR
     obtain ⟨i, hi, rfl, HW⟩ := hrel
     have c6 : wr.cell? ⟨b6, 0, none⟩ = some (.slice ob np cb) := (HW.out.cell HLOW.out.2.2.2.1 0).trans y0
     by_cases hlt : i < np
     ·
      as_aux_lemma =>
      have hl : (i : Int) < np := by omega
      have k1 : (0 : Int) ≤ i := by omega
      obtain ⟨b, cur, hob, hb1, hb2, hrow, hsz, hcur⟩ := HW.out.rul (by rw [HEL.out]; omega)
      subst hob
      obtain ⟨e, hee⟩ : ∃ e, es[i]? = some e := ⟨_, List.getElem?_eq_getElem (by rw [HEL.out]; exact hlt)⟩
      have HEM := hide (List.mem_of_getElem? hee)
      obtain ⟨v0, s0⟩ : ∃ v0, wr.cell? ⟨b, i * 4, none⟩ = some v0 := ⟨cur[i * 4]'(by rw [HEL.out] at hsz; omega), by rw [cell_of_row _ _ _ _ _ _ hrow]; exact Array.getElem?_eq_getElem _⟩
      have f0 : wr.frozen? ⟨b, i * 4, none⟩ = false := frozen_of_row _ _ _ _ _ hrow
      have HW1 := hide (HW.out.nr i b (by rw [HEL.out]; exact hlt) rfl (.int .i64 77))
      have HLE := hide (And.intro hlt hee)
      obtain ⟨m, hm⟩ : ∃ m, m = e.1.conds.length := ⟨_, rfl⟩
      have hm6 : m ≤ 6 := by rw [hm]; exact HFEW6.out e HEM.out
      have HM := hide hm
      clear hrow hsz hcur hlt hee hb1 hb2 hm
      go_wp2_with fail
      go_loopw [11] (fun J w' => ∃ k : Nat, k ≤ m ∧ J = .int .i64 k ∧ Hid (WrX W2.heap.size W3.heap.size (some ⟨b, 0, none⟩) es W6 w')) (fun J _ => m - (intOf J).toNat)
      case atStart => exact ⟨0, by omega, rfl, HW1⟩
      case round =>
       clear HW1 HW
       obtain ⟨k, hk, rfl, HW⟩ := hrel
       obtain ⟨b', cur, hob, hb1, hb2, hrow, hsz, hcur⟩ := HW.out.rul (by rw [HEL.out]; have := HLE.out.1; omega)
       simp only [Option.some.injEq, Addr.mk.injEq] at hob
       obtain ⟨rfl, _⟩ := hob
       have c6 : wr.cell? ⟨b6, 0, none⟩ = some (.slice (some ⟨b, 0, none⟩) np cb) := (HW.out.cell HLOW.out.2.2.2.1 0).trans y0
       obtain ⟨bc, cc, hbc, _, _, _, hrc, hsc⟩ := HW.out.cds e HEM.out
       have s1 : wr.cell? ⟨b, i * 4 + 1, none⟩ = some (.slice (some ⟨bc, 0, none⟩) m e.2.2) := by rw [cell_of_row _ _ _ _ _ _ hrow, hcur i e HLE.out.2, hbc, HM.out]
       clear hrow hsz hcur hb1 hb2
       by_cases hkm : k < m
       ·
        have hl2 : (k : Int) < m := by omega
        have k2 : (0 : Int) ≤ k := by omega
        obtain ⟨v2, s2⟩ : ∃ v2, wr.cell? ⟨bc, k * 9 + 1, none⟩ = some v2 := ⟨cc[k * 9 + 1]'(by rw [← HM.out] at hsc; omega), by rw [cell_of_row _ _ _ _ _ _ hrc]; exact Array.getElem?_eq_getElem _⟩
        have f2 : wr.frozen? ⟨bc, k * 9 + 1, none⟩ = false := frozen_of_row _ _ _ _ _ hrc
        have HW1 := hide (HW.out.op bc (k * 9 + 1) HEM.out hbc (.int .i64 77))
        clear hrc hsc hkm hbc
        go_wp2
        go_round
        case rel => exact ⟨k + 1, by omega, by go_num, HW1⟩
        case measure => simp [intOf]; omega
       ·
        have hl2 : ¬ (k : Int) < m := by omega
        clear hrc hsc hkm hbc
        go_wp2
        go_round
        case rel => exact ⟨i + 1, by have := HLE.out.1; omega, by go_num, HW⟩
        case measure => simp [intOf]; have := HLE.out.1; omega
     ·
      as_aux_lemma =>
      have hl : ¬ (i : Int) < np := by omega
      replace x0 : wr.cell? ⟨b2, 0, none⟩ = some (.slice oa np cap) := (cell_heap (HW.out.out b2 (.inl HLOW.out.2.2.1)) 0).trans x0
      replace x1 : wr.cell? ⟨b2, 1, none⟩ = some (.int .i64 ak) := (cell_heap (HW.out.out b2 (.inl HLOW.out.2.2.1)) 1).trans x1
      replace x2 : wr.cell? ⟨b2, 2, none⟩ = some (.int .i64 ae) := (cell_heap (HW.out.out b2 (.inl HLOW.out.2.2.1)) 2).trans x2
      have HBX := hide (HW.out.below HBw6.out HLOW.out.1)
      have HWX := hide (HW.out.ward HNX.out HLOW.out.2.2.2.2 HB56.out)
      have HSX := hide (show W5.heap.size ≤ wr.heap.size by rw [HW.out.fr.2.2.2]; exact HB56.out.size)
      go_wp2_with fail
      refine (HMD wr (fun U hU hs => HP.out.heap (fun k hk => (hU k hk).trans (HBX.out.block k hk)) hs) HBX.out.size).mono ?_
      rintro e Y ⟨rfl, hD, hbY⟩
      have HBW := hide (BW.start HNX.out HWX.out HSX.out HBX.out (by have := HLOW.out; omega) hD hbY)
      obtain ⟨gd, hgd⟩ : ∃ g, g = wr.heap.size + 1 := ⟨_, rfl⟩
      rw [← hgd] at HBW
      rw [← hgd]
      clear hgd hD hbY HBX HWX HSX HW c6 x0 x1 x2 y0 hlt HNX HBw6 HB36 HB56 HO3 HI3 HI4
      have HT0 := hide tie_new
      have hn60 := HFA.out.1
      obtain ⟨Q, hQ⟩ : ∃ Q : PV, Q = ⟨p, oa, cap, w.heap.size⟩ := ⟨_, rfl⟩
      rw [← hQ] at HBW
      clear hQ HMD
      go_wp2_with fail
      go_loopw [7, 13] (fun A I w' => ∃ (i g gm : Nat) (P : PV) (lv : Value) (s : WS) (sv : Nat → Value) (ld : Value) (d : DWS), i ≤ n ∧ A = .pointer (some ⟨g, 0, none⟩) ∧ I = .int .i64 i ∧ Hid (BW p w g gm P lv s (i * 100) gd Q sv ld d w') ∧ Hid (TieW s d)) (fun _ I _ => n - (intOf I).toNat)
      case atStart => exact ⟨0, g, gm, P, _, newS, _, _, newD, by omega, rfl, rfl, HBW, HT0⟩
      case round =>
       clear HBW HT0
       obtain ⟨i, g, gm, P, lv, s, sv, ld, d, hi, rfl, rfl, HBW, HT⟩ := hrel
       by_cases hlt : i < n
       ·
        have hl : (i : Int) < n := by omega
        have k1 : (0 : Int) ≤ i := by omega
        obtain ⟨ba, off, hoc, hba, hacts⟩ := (HA.out.on HBW.out.below).lie (by omega)
        subst hoc
        obtain ⟨x, hx⟩ : ∃ x, x = L i := ⟨_, rfl⟩
        have hat := hacts i hlt
        have hxs := HFA.out.2 i hlt
        rw [← hx] at hat hxs
        have hxa := hat.aLt
        have hxc := hat.cOk
        have z0 := hat.k0
        have z1 := hat.k1
        have z2 := hat.k2
        have z3 := hat.k3
        have z4 := hat.k4
        have z5 := hat.k5
        have z6 := hat.k6
        have z7 := hat.k7
        have z8 := hat.k8
        have z9 := hat.k9
        have z10 := hat.k10
        have HXX := hide (And.intro hxa (And.intro hxc hxs))
        clear hat hacts hx hxa hxc hxs hba
        cases hcp : (x.kind.toList == [99, 111, 112, 121]) with
        | true => as_aux_lemma =>
         have hpp := HBW.out.pp
         have HST := fun (m : Int) (s : WS) (lv : Value) Y (hi : Inv P.p s) (hl : s.log.length ≤ 1000000) (h : WX g gm P s lv Y) => wstep_any m (by rw [hpp]; exact HPQ.out.1) hi h hl
         unfold GoesS at HST
         rw [hpp] at HST
         have HCP := wcopy_any HBW.out.w (by have := HBW.out.log; omega)
         have HLS := hide HBW.out.log
         clear hpp z1 z2 z3 z4 z5 z6 z7 z8 z9 z10
         go_wp2_with fail
         refine HCP.mono ?_
         rintro e Y ⟨g', gm', lc, rfl, hC⟩
         have HC0 := hide (BC.start HBW.out hC)
         clear hC HCP z0
         go_wp2_with fail
         refine (wmap_any 0 true HC0.out.b.w).mono ?_
         rintro e Y1 ⟨rfl, h1, h2⟩
         have HC1 := hide (HC0.out.code h1 h2 (mem_inv HC0.out.b.inv (mapW_high _ _ _).1 (mapW_high _ _ _).2) (show s.log.length ≤ 7000 by have := HLS.out; omega))
         clear h1 h2 HC0
         go_wp2_with fail
         refine (wenter_any 0 zeroKL HC1.out.b.w).mono ?_
         rintro e Y2 ⟨rfl, h1, h2⟩
         have HC2 := hide (HC1.out.code (K' := 7000) h1 h2 (enterW_inv HC1.out.b.inv 0 ⟨by decide, by decide, by decide, by decide, by decide, by decide⟩) (by rw [enterW_log]; exact HC1.out.b.log))
         clear h1 h2 HC1
         go_wp2_with fail
         refine (HST 0 _ _ Y2 HC2.out.b.inv (by have := HC2.out.b.log; omega) HC2.out.b.w).mono ?_
         rintro e Y3 ⟨rfl, lv3, h1, h2⟩
         have HC3 := hide (HC2.out.code (K' := 7001) h1 h2 (stepW_inv HPQ.out.1 HPQ.out.2 HC2.out.b.inv 0) (by have := stepW_log HPQ.out.1 HC2.out.b.inv 0; have := HC2.out.b.log; omega))
         clear h1 h2 HC2
         go_wp2_with fail
         refine (HST 1 _ _ Y3 HC3.out.b.inv (by have := HC3.out.b.log; omega) HC3.out.b.w).mono ?_
         rintro e Y4 ⟨rfl, lv4, h1, h2⟩
         have HC4 := hide (HC3.out.code (K' := 7002) h1 h2 (stepW_inv HPQ.out.1 HPQ.out.2 HC3.out.b.inv 1) (by have := stepW_log HPQ.out.1 HC3.out.b.inv 1; have := HC3.out.b.log; omega))
         have HBN := hide (HC4.out.take (K' := (i + 1) * 100) (by have := HLS.out; omega))
         clear h1 h2 HC3 HC4 HST
         go_wp2
         go_round
         case rel => exact ⟨i + 1, g', gm', P, lc, s, sv, ld, d, by omega, rfl, by go_num, HBN, HT⟩
         case measure => simp [intOf]; omega
        | false => as_aux_lemma =>
         have HWD := warded_any HBW.out HT.out HPQ.out.1 HPQ.out.2 (by omega) x HXX.out.2.1 HXX.out.1 HXX.out.2.2
         unfold acC at HWD
         go_wp2_with fail
         refine HWD.mono ?_
         rintro e Y hW
         obtain ⟨rfl, lv', s', sv', ld', d', hB, hT⟩ := hW
         have HBN := hide (hB.weak (K' := (i + 1) * 100) (by omega))
         have HTN := hide hT
         have HAW := asWard_any HBN.out HTN.out (by omega)
         clear hB hT HWD z0 z1 z2 z3 z4 z5 z6 z7 z8 z9 z10 HBW HT
         by_cases h6 : i % 6 = 0
         ·
          have m1 : Int.tmod (i : Int) 6 = 0 := by have h7 : Int.tmod (i : Int) 6 = ((i % 6 : Nat) : Int) := rfl; omega
          go_wp2_with (go_at_call 17; refine HAW.mono ?_; rintro e Z ⟨rfl, hZ⟩; have HBZ := hide hZ; clear hZ)
          go_round
          case rel => exact ⟨i + 1, g, gm, P, lv', s', sv', ld', d', by omega, rfl, by go_num, HBZ, HTN⟩
          case measure => simp [intOf]; omega
         ·
          have m1 : ¬ Int.tmod (i : Int) 6 = 0 := fun e => h6 (by have : Int.tmod (i : Int) 6 = ((i % 6 : Nat) : Int) := rfl; omega)
          go_wp2
          go_round
          case rel => exact ⟨i + 1, g, gm, P, lv', s', sv', ld', d', by omega, rfl, by go_num, HBN, HTN⟩
          case measure => simp [intOf]; omega
       ·
        as_aux_lemma =>
        have hl : ¬ (i : Int) < n := by omega
        have HAW := asWard_any HBW.out HT.out (by omega)
        go_wp2_with fail
        refine HAW.mono ?_
        rintro e Z ⟨rfl, hZ⟩
        have HBZ := hide hZ.below
        clear hZ HAW
        go_wp2
        go_ret
        exact ⟨rfl, HBZ.out⟩
   ·
    as_aux_lemma =>
    have HN := new_err p hpf ob cb W4 HI4.out
    unfold polV at HN
    rw [← HNP.out.1, ← HNP.out.2.1, ← HNP.out.2.2] at HN
    obtain ⟨f, hf⟩ : ∃ f, f = polF p := ⟨_, rfl⟩
    rw [← hf] at HN HPF hpf
    have hf0 : (0 : Int) < f := by omega
    clear hf hpf
    refine HN.mono ?_
    rintro e W5 ⟨rfl, hb5⟩
    replace x0 := keep_cell hb5 x0
    replace x1 := keep_cell hb5 x1
    replace x2 := keep_cell hb5 x2
    have HB5 := hide (below_next HB4.out hb5)
    clear hb5 HN
    go_wp2_with fail
    refine (HPF W5 (HP.out.on HB5.out)).mono ?_
    rintro e W6 ⟨rfl, hb6⟩
    have HB6' := hide (below_next HB5.out hb6)
    clear hb6 HPF
    go_wp2_with (go_at_call 10; refine (same_err f _).mono ?_; rintro e w' ⟨rfl, hw⟩; rw [hw]; clear hw w')
    go_ret
    exact ⟨rfl, HB6'.out⟩
end Go.Proofs.YtklibmijiecbfaaGreat
