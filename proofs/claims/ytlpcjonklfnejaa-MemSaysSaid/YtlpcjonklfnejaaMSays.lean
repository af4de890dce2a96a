/- The walk of the law MemSays. -/
import Derived.Test.YtlpcjonklfnejaaMAs
import Derived.Deep.RegionHeld3
namespace Go.Proofs.Ytlpcjonklfnejaa
open Go.RowKit

theorem Kp.below {g h B : Nat} {W w' : World} (x : Kp g h W w') (h1 : B ≤ g) (h2 : B ≤ h) (h3 : B ≤ W.heap.size) : Below B W w' := ⟨x.os, x.tape, x.output, x.size, fun j hj => x.block j (by omega) (by omega) (by omega)⟩

set_option maxRecDepth 100000 in
theorem zero_cellsR : Try.zeroCells41 = VA 780 (cellR zeroR) := by
  rw [VA_eq]
  kernel_rfl

theorem IsM.drew {g : Nat} {m : MS} {W : World} (h : IsM g m W) : IsM g m W.drew := h
theorem IsR.drew {g : Nat} {r : RS} {W : World} (h : IsR g r W) : IsR g r W.drew := h
theorem copy_ex {g : Nat} {m : MS} {W : World} (h : IsM g m W) : ∃ gn, gn = W.heap.size ∧ Calls Try.prog 37 #[.pointer (some ⟨g, 0, none⟩)] W fun e w' => e = .returned (.pointer (some ⟨gn, 0, none⟩)) ∧ IsM gn m w' ∧ Below W.heap.size W w' := ⟨_, rfl, copy_any h⟩

set_option maxRecDepth 100000 in
set_option maxHeartbeats 40000000 in
theorem memSays_light (oa : Option Addr) (n cap : Nat) (hn : n ≤ 60) (L : Nat → AC) (w : World) (hA : IsActs oa n L w) (hs : ∀ i, i < n → (L i).s.size ≤ 200) (hl : lightR n L 60 = true) :
    Calls Try.prog 5 #[.slice oa n cap] w fun e w' => e = .returned (.bool true) ∧ Below w.heap.size w w' := by
  have HA := hide hA
  have HS := hide hs
  have HL := hide hl
  clear hA hs hl
  go_enter Try.func5, Try.ntmps5
  go_wp2_with fail
  refine (stays_any _).mono ?_
  rintro e w1 ⟨rfl, hb1⟩
  have HLI := light_any oa n cap (by omega) L 60 w1 (HA.out.on hb1)
  rw [HL.out] at HLI
  go_wp2_with fail
  refine HLI.mono ?_
  rintro e w' ⟨rfl, rfl⟩
  clear HLI
  go_wp2_with fail
  refine (new_any _).mono ?_
  rintro e w2 ⟨rfl, hb2, hM2⟩
  replace hM2 := hide hM2
  have HB2 := hide (below_next hb1 hb2)
  clear hb2
  go_wp2_with fail
  rw [zero_cellsR]
  have hR3 := hide (show IsR w2.heap.size zeroR (w2.alloc (.cells (VA 780 (cellR zeroR)) 41)) from heap_alloc_new w2 _)
  have hM3 := hide (show IsM w'.heap.size zeroM (w2.alloc (.cells (VA 780 (cellR zeroR)) 41)) from (heap_alloc_old w2 _ (h := hM2.out.lt)).trans hM2.out)
  have hB3 := hide (show Below w.heap.size w (w2.alloc (.cells (VA 780 (cellR zeroR)) 41)) from HB2.out.alloc HB2.out.size _)
  have hg'le : w.heap.size ≤ w2.heap.size := HB2.out.size
  have hgle0 : w.heap.size ≤ w'.heap.size := hb1.size
  have hne0 : w'.heap.size ≠ w2.heap.size := Nat.ne_of_lt hM2.out.lt
  obtain ⟨g', hg'⟩ : ∃ g', g' = w2.heap.size := ⟨_, rfl⟩
  obtain ⟨g0, hg0⟩ : ∃ g0, g0 = w'.heap.size := ⟨_, rfl⟩
  obtain ⟨W3, hW3⟩ : ∃ W3, W3 = w2.alloc (.cells (VA 780 (cellR zeroR)) 41) := ⟨_, rfl⟩
  rw [← hW3] at hR3 hM3 hB3 ⊢
  rw [← hg'] at hR3 hg'le hne0 ⊢
  rw [← hg0] at hM3 hgle0 hne0 ⊢
  clear hW3 hg' hg0 hM2 HB2 hb1
  go_loopw [4, 6] (fun M I wr => ∃ (i g : Nat) (m : MS) (r : RS), i ≤ n ∧ I = .int .i64 i ∧ M = .pointer (some ⟨g, 0, none⟩) ∧ Hid (Rel m r ∧ IsM g m wr ∧ IsR g' r wr ∧ g ≠ g' ∧ w.heap.size ≤ g ∧ Below w.heap.size w wr)) (fun _ I _ => n - (intOf I).toNat)
  case atStart => exact ⟨0, g0, zeroM, zeroR, by omega, rfl, rfl, hide ⟨rel_zero, hM3.out, hR3.out, hne0, hgle0, hB3.out⟩⟩
  case round =>
    obtain ⟨i, g, m, r, hi, rfl, rfl, HG⟩ := hrel
    clear hM3 hR3 hB3 hne0 hgle0
    by_cases hlt : i < n
    · obtain ⟨b, off, rfl, hb, hAA⟩ := HA.out.lie (by omega)
      obtain ⟨HREL, hM, hR, hne, hgle, hB⟩ := HG.out
      clear HG
      obtain ⟨c0, c1, c2, c3, c4, c5, c6, c7, c8, c9, c10, haK, haS, haL, haN, haN2⟩ := (hAA i hlt).on fun j => (bcell hB).1 b j hb
      have hxs := HS.out i hlt
      obtain ⟨x, hx⟩ : ∃ x, x = L i := ⟨_, rfl⟩
      rw [← hx] at c0 c1 c2 c3 c4 c5 c6 c7 c8 c9 c10 haL haN haN2 hxs
      clear hx hAA haK haS
      obtain ⟨kd, xn, xa, xs, xw, a0, a1, a2, a3, a4, a5⟩ := x
      simp only at c0 c1 c2 c3 c4 c5 c6 c7 c8 c9 c10 haL haN haN2 hxs
      obtain ⟨OB, hOB⟩ : ∃ OB, OB = Obj.cells #[.string kd, .int .i64 xn, .int .u64 xa, .string xs, .bool xw, .int .u32 a0, .int .u32 a1, .int .u64 a2, .int .u64 a3, .int .u64 a4, .int .u64 a5] 48 := ⟨_, rfl⟩
      have HMA := hide (show IsM g m (wr.alloc OB) from (heap_alloc_old wr _ (h := hM.lt)).trans hM)
      have HRA := hide (show IsR g' r (wr.alloc OB) from (heap_alloc_old wr _ (h := hR.lt)).trans hR)
      have HBA := hide (show Below w.heap.size w (wr.alloc OB) from hB.alloc hB.size _)
      have hn1 : some wr.heap.size ≠ some g := fun e => by have h1 := Option.some.inj e; have h2 := hM.lt; omega
      have hn2 : some wr.heap.size ≠ some g' := fun e => by have h1 := Option.some.inj e; have h2 := hR.lt; omega
      rw [hOB] at HMA HRA HBA
      have hq := fun j => cell_of_row (wr.alloc OB) wr.heap.size j _ _ _ (by rw [hOB]; exact heap_alloc_new wr _)
      rw [hOB] at hq
      have q1 := hq 1
      have q2 := hq 2
      have q3 := hq 3
      have q4 := hq 4
      simp only [List.getElem?_toArray, List.getElem?_cons_succ, List.getElem?_cons_zero] at q1 q2 q3 q4
      have HREL' := hide HREL
      clear hOB hq hM hR hB HA HS HL
      cases hk_map : (kd.toList == [109, 97, 112]) with
      | true =>
        as_aux_lemma =>
          obtain ⟨f, m', r', hRel, HC, HD⟩ := both_map HREL g g' xn xw
          have HRel := hide hRel
          clear hRel
          go_wp2_with fail
          replace HMA := hide HMA.out.drew
          replace HRA := hide HRA.out.drew
          replace HBA := hide HBA.out.drew
          go_region_held3 (fun w' => w'.cell? ⟨wr.heap.size, 1, none⟩ = some (.int .i64 xn) ∧ w'.cell? ⟨wr.heap.size, 4, none⟩ = some (.bool xw))
            (first | go_keep | (go_split_ands; exact ⟨hgC.cell (by assumption) hn1, hgC.cell (by assumption) hn1⟩) | (go_split_ands; exact ⟨hgD.cell (by assumption) hn2, hgD.cell (by assumption) hn2⟩))
            ((first
              | (go_at_call 21; (first | refine (HC _ hMD.out).mono ?_ | refine (HC _ HMA.out).mono ?_); rintro e wC ⟨rfl, hMC, hgC⟩; replace hMC := hide hMC; (first | (have HRf := hide (hRD.out.keep hgC (Ne.symm hne)); have HMf := hMC; have HBf := hide (hBD.out.trans ((Kp.ofG (h := g') hgC).below hgle hg'le hBD.out.size))) | (have hRC := hide (HRA.out.keep hgC (Ne.symm hne)); have hBC := hide (HBA.out.trans ((Kp.ofG (h := g') hgC).below hgle hg'le HBA.out.size)))))
              | (go_at_call 22; (first | refine (HD _ hRC.out).mono ?_ | refine (HD _ HRA.out).mono ?_); rintro e wD ⟨rfl, hRD, hgD⟩; replace hRD := hide hRD; (first | (have HMf := hide (hMC.out.keep hgD hne); have HRf := hRD; have HBf := hide (hBC.out.trans ((Kp.ofH (g := g) hgD).below hgle hg'le hBC.out.size))) | (have hMD := hide (HMA.out.keep hgD hne); have hBD := hide (HBA.out.trans ((Kp.ofH (g := g) hgD).below hgle hg'le HBA.out.size)))))
              | (go_at_call 11; refine (same_err f _).mono ?_; rintro e w' ⟨rfl, rfl⟩)))
          all_goals
            cases h5 : ((i : Int) % 5 == 0) with
            | false =>
              go_wp2
              go_round
              case rel => exact ⟨i + 1, g, m', r', by omega, by go_num, rfl, hide ⟨HRel.out, HMf.out, HRf.out, hne, hgle, HBf.out⟩⟩
              case measure => simp [intOf]; omega
            | true =>
              go_wp2_with fail
              refine (asMem_any HRel.out hne HMf.out HRf.out).mono ?_
              rintro e wZ ⟨rfl, hMz, hRz, hKz⟩
              have HBz := hide (HBf.out.trans (hKz.below hgle hg'le HBf.out.size))
              replace hMz := hide hMz
              replace hRz := hide hRz
              clear hKz
              go_wp2
              go_round
              case rel => exact ⟨i + 1, g, m', r', by omega, by go_num, rfl, hide ⟨HRel.out, hMz.out, hRz.out, hne, hgle, HBz.out⟩⟩
              case measure => simp [intOf]; omega
      | false =>
        cases hk_unmap : (kd.toList == [117, 110, 109, 97, 112]) with
        | true =>
          as_aux_lemma =>
            obtain ⟨f, m', r', hRel, HC, HD⟩ := both_unmap HREL g g' xn
            have HRel := hide hRel
            clear hRel
            go_wp2_with fail
            replace HMA := hide HMA.out.drew
            replace HRA := hide HRA.out.drew
            replace HBA := hide HBA.out.drew
            go_region_held3 (fun w' => w'.cell? ⟨wr.heap.size, 1, none⟩ = some (.int .i64 xn))
              (first | go_keep | (go_split_ands; exact hgC.cell (by assumption) hn1) | (go_split_ands; exact hgD.cell (by assumption) hn2))
              ((first
                | (go_at_call 23; (first | refine (HC _ hMD.out).mono ?_ | refine (HC _ HMA.out).mono ?_); rintro e wC ⟨rfl, hMC, hgC⟩; replace hMC := hide hMC; (first | (have HRf := hide (hRD.out.keep hgC (Ne.symm hne)); have HMf := hMC; have HBf := hide (hBD.out.trans ((Kp.ofG (h := g') hgC).below hgle hg'le hBD.out.size))) | (have hRC := hide (HRA.out.keep hgC (Ne.symm hne)); have hBC := hide (HBA.out.trans ((Kp.ofG (h := g') hgC).below hgle hg'le HBA.out.size)))))
                | (go_at_call 24; (first | refine (HD _ hRC.out).mono ?_ | refine (HD _ HRA.out).mono ?_); rintro e wD ⟨rfl, hRD, hgD⟩; replace hRD := hide hRD; (first | (have HMf := hide (hMC.out.keep hgD hne); have HRf := hRD; have HBf := hide (hBC.out.trans ((Kp.ofH (g := g) hgD).below hgle hg'le hBC.out.size))) | (have hMD := hide (HMA.out.keep hgD hne); have hBD := hide (HBA.out.trans ((Kp.ofH (g := g) hgD).below hgle hg'le HBA.out.size)))))
                | (go_at_call 11; refine (same_err f _).mono ?_; rintro e w' ⟨rfl, rfl⟩)))
            all_goals
              cases h5 : ((i : Int) % 5 == 0) with
              | false =>
                go_wp2
                go_round
                case rel => exact ⟨i + 1, g, m', r', by omega, by go_num, rfl, hide ⟨HRel.out, HMf.out, HRf.out, hne, hgle, HBf.out⟩⟩
                case measure => simp [intOf]; omega
              | true =>
                go_wp2_with fail
                refine (asMem_any HRel.out hne HMf.out HRf.out).mono ?_
                rintro e wZ ⟨rfl, hMz, hRz, hKz⟩
                have HBz := hide (HBf.out.trans (hKz.below hgle hg'le HBf.out.size))
                replace hMz := hide hMz
                replace hRz := hide hRz
                clear hKz
                go_wp2
                go_round
                case rel => exact ⟨i + 1, g, m', r', by omega, by go_num, rfl, hide ⟨HRel.out, hMz.out, hRz.out, hne, hgle, HBz.out⟩⟩
                case measure => simp [intOf]; omega
        | false =>
          cases hk_put : (kd.toList == [112, 117, 116]) with
          | true =>
            as_aux_lemma =>
              obtain ⟨f, m', r', hRel, HC, HD⟩ := both_put HREL g g' xa xs haL (by omega)
              have HRel := hide hRel
              clear hRel
              go_wp2_with fail
              replace HMA := hide HMA.out.drew
              replace HRA := hide HRA.out.drew
              replace HBA := hide HBA.out.drew
              go_region_held3 (fun w' => w'.cell? ⟨wr.heap.size, 2, none⟩ = some (.int .u64 xa) ∧ w'.cell? ⟨wr.heap.size, 3, none⟩ = some (.string xs))
                (first | go_keep | (go_split_ands; exact ⟨hgC.cell (by assumption) hn1, hgC.cell (by assumption) hn1⟩) | (go_split_ands; exact ⟨hgD.cell (by assumption) hn2, hgD.cell (by assumption) hn2⟩))
                ((first
                  | (go_at_call 25; (first | refine (HC _ hMD.out).mono ?_ | refine (HC _ HMA.out).mono ?_); rintro e wC ⟨rfl, hMC, hgC⟩; replace hMC := hide hMC; (first | (have HRf := hide (hRD.out.keep hgC (Ne.symm hne)); have HMf := hMC; have HBf := hide (hBD.out.trans ((Kp.ofG (h := g') hgC).below hgle hg'le hBD.out.size))) | (have hRC := hide (HRA.out.keep hgC (Ne.symm hne)); have hBC := hide (HBA.out.trans ((Kp.ofG (h := g') hgC).below hgle hg'le HBA.out.size)))))
                  | (go_at_call 26; (first | refine (HD _ hRC.out).mono ?_ | refine (HD _ HRA.out).mono ?_); rintro e wD ⟨rfl, hRD, hgD⟩; replace hRD := hide hRD; (first | (have HMf := hide (hMC.out.keep hgD hne); have HRf := hRD; have HBf := hide (hBC.out.trans ((Kp.ofH (g := g) hgD).below hgle hg'le hBC.out.size))) | (have hMD := hide (HMA.out.keep hgD hne); have hBD := hide (HBA.out.trans ((Kp.ofH (g := g) hgD).below hgle hg'le HBA.out.size)))))
                  | (go_at_call 11; refine (same_err f _).mono ?_; rintro e w' ⟨rfl, rfl⟩)))
              all_goals
                cases h5 : ((i : Int) % 5 == 0) with
                | false =>
                  go_wp2
                  go_round
                  case rel => exact ⟨i + 1, g, m', r', by omega, by go_num, rfl, hide ⟨HRel.out, HMf.out, HRf.out, hne, hgle, HBf.out⟩⟩
                  case measure => simp [intOf]; omega
                | true =>
                  go_wp2_with fail
                  refine (asMem_any HRel.out hne HMf.out HRf.out).mono ?_
                  rintro e wZ ⟨rfl, hMz, hRz, hKz⟩
                  have HBz := hide (HBf.out.trans (hKz.below hgle hg'le HBf.out.size))
                  replace hMz := hide hMz
                  replace hRz := hide hRz
                  clear hKz
                  go_wp2
                  go_round
                  case rel => exact ⟨i + 1, g, m', r', by omega, by go_num, rfl, hide ⟨HRel.out, hMz.out, hRz.out, hne, hgle, HBz.out⟩⟩
                  case measure => simp [intOf]; omega
          | false =>
            cases hk_get : (kd.toList == [103, 101, 116]) with
            | true =>
              as_aux_lemma =>
                obtain ⟨f, x, HC, HD⟩ := both_get HREL g g' xa xn haL
                go_wp2_with fail
                refine (HC _ HMA.out).mono ?_
                rintro e wC ⟨rfl, hMC, hgC⟩
                have hRC := hide (HRA.out.keep hgC (Ne.symm hne))
                have hBC := hide (HBA.out.trans ((Kp.ofG (h := g') hgC).below hgle hg'le HBA.out.size))
                replace hMC := hide hMC
                have k1 := hgC.cell q1 hn1
                have k2 := hgC.cell q2 hn1
                have k3 := hgC.cell q3 hn1
                clear hgC
                go_wp2_with fail
                refine (HD _ hRC.out).mono ?_
                rintro e wD ⟨rfl, hRD, hgD⟩
                have HMf := hide (hMC.out.keep hgD hne)
                have HBf := hide (hBC.out.trans ((Kp.ofH (g := g) hgD).below hgle hg'le hBC.out.size))
                have HRf := hide hRD
                clear hgD hRD hMC hRC hBC k1 k2 k3 q1 q2 q3
                go_wp2_with fail
                refine (same_err f _).mono ?_
                rintro e w' ⟨rfl, rfl⟩
                have HRel := hide HREL
                cases h5 : ((i : Int) % 5 == 0) with
                | false =>
                  go_wp2
                  go_round
                  case rel => exact ⟨i + 1, g, m, r, by omega, by go_num, rfl, hide ⟨HRel.out, HMf.out, HRf.out, hne, hgle, HBf.out⟩⟩
                  case measure => simp [intOf]; omega
                | true =>
                  go_wp2_with fail
                  refine (asMem_any HRel.out hne HMf.out HRf.out).mono ?_
                  rintro e wZ ⟨rfl, hMz, hRz, hKz⟩
                  have HBz := hide (HBf.out.trans (hKz.below hgle hg'le HBf.out.size))
                  replace hMz := hide hMz
                  replace hRz := hide hRz
                  clear hKz
                  go_wp2
                  go_round
                  case rel => exact ⟨i + 1, g, m, r, by omega, by go_num, rfl, hide ⟨HRel.out, hMz.out, hRz.out, hne, hgle, HBz.out⟩⟩
                  case measure => simp [intOf]; omega
            | false =>
              cases hk_text : (kd.toList == [116, 101, 120, 116]) with
              | true =>
                as_aux_lemma =>
                  obtain ⟨f, x, HC, HD⟩ := both_text HREL g g' xa haL
                  go_wp2_with fail
                  refine (HC _ HMA.out).mono ?_
                  rintro e wC ⟨rfl, hMC, hgC⟩
                  have hRC := hide (HRA.out.keep hgC (Ne.symm hne))
                  have hBC := hide (HBA.out.trans ((Kp.ofG (h := g') hgC).below hgle hg'le HBA.out.size))
                  replace hMC := hide hMC
                  have k1 := hgC.cell q1 hn1
                  have k2 := hgC.cell q2 hn1
                  have k3 := hgC.cell q3 hn1
                  clear hgC
                  go_wp2_with fail
                  refine (HD _ hRC.out).mono ?_
                  rintro e wD ⟨rfl, hRD, hgD⟩
                  have HMf := hide (hMC.out.keep hgD hne)
                  have HBf := hide (hBC.out.trans ((Kp.ofH (g := g) hgD).below hgle hg'le hBC.out.size))
                  have HRf := hide hRD
                  clear hgD hRD hMC hRC hBC k1 k2 k3 q1 q2 q3
                  go_wp2_with fail
                  refine (same_err f _).mono ?_
                  rintro e w' ⟨rfl, rfl⟩
                  have HRel := hide HREL
                  cases h5 : ((i : Int) % 5 == 0) with
                  | false =>
                    go_wp2
                    go_round
                    case rel => exact ⟨i + 1, g, m, r, by omega, by go_num, rfl, hide ⟨HRel.out, HMf.out, HRf.out, hne, hgle, HBf.out⟩⟩
                    case measure => simp [intOf]; omega
                  | true =>
                    go_wp2_with fail
                    refine (asMem_any HRel.out hne HMf.out HRf.out).mono ?_
                    rintro e wZ ⟨rfl, hMz, hRz, hKz⟩
                    have HBz := hide (HBf.out.trans (hKz.below hgle hg'le HBf.out.size))
                    replace hMz := hide hMz
                    replace hRz := hide hRz
                    clear hKz
                    go_wp2
                    go_round
                    case rel => exact ⟨i + 1, g, m, r, by omega, by go_num, rfl, hide ⟨HRel.out, hMz.out, hRz.out, hne, hgle, HBz.out⟩⟩
                    case measure => simp [intOf]; omega
              | false =>
                cases hk_seal : (kd.toList == [115, 101, 97, 108]) with
                | true =>
                  as_aux_lemma =>
                    obtain ⟨f, x, m', r', hRel, HC, HD⟩ := both_seal HREL g g' xs (by omega)
                    have HRel := hide hRel
                    clear hRel
                    go_wp2_with fail
                    refine (HC _ HMA.out).mono ?_
                    rintro e wC ⟨rfl, hMC, hgC⟩
                    have hRC := hide (HRA.out.keep hgC (Ne.symm hne))
                    have hBC := hide (HBA.out.trans ((Kp.ofG (h := g') hgC).below hgle hg'le HBA.out.size))
                    replace hMC := hide hMC
                    have k1 := hgC.cell q1 hn1
                    have k2 := hgC.cell q2 hn1
                    have k3 := hgC.cell q3 hn1
                    clear hgC
                    go_wp2_with fail
                    refine (HD _ hRC.out).mono ?_
                    rintro e wD ⟨rfl, hRD, hgD⟩
                    have HMf := hide (hMC.out.keep hgD hne)
                    have HBf := hide (hBC.out.trans ((Kp.ofH (g := g) hgD).below hgle hg'le hBC.out.size))
                    have HRf := hide hRD
                    clear hgD hRD hMC hRC hBC k1 k2 k3 q1 q2 q3
                    go_wp2_with fail
                    refine (same_err f _).mono ?_
                    rintro e w' ⟨rfl, rfl⟩
                    cases h5 : ((i : Int) % 5 == 0) with
                    | false =>
                      go_wp2
                      go_round
                      case rel => exact ⟨i + 1, g, m', r', by omega, by go_num, rfl, hide ⟨HRel.out, HMf.out, HRf.out, hne, hgle, HBf.out⟩⟩
                      case measure => simp [intOf]; omega
                    | true =>
                      go_wp2_with fail
                      refine (asMem_any HRel.out hne HMf.out HRf.out).mono ?_
                      rintro e wZ ⟨rfl, hMz, hRz, hKz⟩
                      have HBz := hide (HBf.out.trans (hKz.below hgle hg'le HBf.out.size))
                      replace hMz := hide hMz
                      replace hRz := hide hRz
                      clear hKz
                      go_wp2
                      go_round
                      case rel => exact ⟨i + 1, g, m', r', by omega, by go_num, rfl, hide ⟨HRel.out, hMz.out, hRz.out, hne, hgle, HBz.out⟩⟩
                      case measure => simp [intOf]; omega
                | false =>
                  cases hk_free : (kd.toList == [102, 114, 101, 101]) with
                  | true =>
                    as_aux_lemma =>
                      obtain ⟨f, m', r', hRel, HC, HD⟩ := both_free HREL g g' xa haL
                      have HRel := hide hRel
                      clear hRel
                      go_wp2_with fail
                      replace HMA := hide HMA.out.drew
                      replace HRA := hide HRA.out.drew
                      replace HBA := hide HBA.out.drew
                      go_region_held3 (fun w' => w'.cell? ⟨wr.heap.size, 2, none⟩ = some (.int .u64 xa))
                        (first | go_keep | (go_split_ands; exact hgC.cell (by assumption) hn1) | (go_split_ands; exact hgD.cell (by assumption) hn2))
                        ((first
                          | (go_at_call 33; (first | refine (HC _ hMD.out).mono ?_ | refine (HC _ HMA.out).mono ?_); rintro e wC ⟨rfl, hMC, hgC⟩; replace hMC := hide hMC; (first | (have HRf := hide (hRD.out.keep hgC (Ne.symm hne)); have HMf := hMC; have HBf := hide (hBD.out.trans ((Kp.ofG (h := g') hgC).below hgle hg'le hBD.out.size))) | (have hRC := hide (HRA.out.keep hgC (Ne.symm hne)); have hBC := hide (HBA.out.trans ((Kp.ofG (h := g') hgC).below hgle hg'le HBA.out.size)))))
                          | (go_at_call 34; (first | refine (HD _ hRC.out).mono ?_ | refine (HD _ HRA.out).mono ?_); rintro e wD ⟨rfl, hRD, hgD⟩; replace hRD := hide hRD; (first | (have HMf := hide (hMC.out.keep hgD hne); have HRf := hRD; have HBf := hide (hBC.out.trans ((Kp.ofH (g := g) hgD).below hgle hg'le hBC.out.size))) | (have hMD := hide (HMA.out.keep hgD hne); have hBD := hide (HBA.out.trans ((Kp.ofH (g := g) hgD).below hgle hg'le HBA.out.size)))))
                          | (go_at_call 11; refine (same_err f _).mono ?_; rintro e w' ⟨rfl, rfl⟩)))
                      all_goals
                        cases h5 : ((i : Int) % 5 == 0) with
                        | false =>
                          go_wp2
                          go_round
                          case rel => exact ⟨i + 1, g, m', r', by omega, by go_num, rfl, hide ⟨HRel.out, HMf.out, HRf.out, hne, hgle, HBf.out⟩⟩
                          case measure => simp [intOf]; omega
                        | true =>
                          go_wp2_with fail
                          refine (asMem_any HRel.out hne HMf.out HRf.out).mono ?_
                          rintro e wZ ⟨rfl, hMz, hRz, hKz⟩
                          have HBz := hide (HBf.out.trans (hKz.below hgle hg'le HBf.out.size))
                          replace hMz := hide hMz
                          replace hRz := hide hRz
                          clear hKz
                          go_wp2
                          go_round
                          case rel => exact ⟨i + 1, g, m', r', by omega, by go_num, rfl, hide ⟨HRel.out, hMz.out, hRz.out, hne, hgle, HBz.out⟩⟩
                          case measure => simp [intOf]; omega
                  | false =>
                    cases hk_byte : (kd.toList == [98, 121, 116, 101]) with
                    | true =>
                      as_aux_lemma =>
                        obtain ⟨f, x, HC, HD⟩ := both_byte HREL g g' xa haL
                        go_wp2_with fail
                        refine (HC _ HMA.out).mono ?_
                        rintro e wC ⟨rfl, hMC, hgC⟩
                        have hRC := hide (HRA.out.keep hgC (Ne.symm hne))
                        have hBC := hide (HBA.out.trans ((Kp.ofG (h := g') hgC).below hgle hg'le HBA.out.size))
                        replace hMC := hide hMC
                        have k1 := hgC.cell q1 hn1
                        have k2 := hgC.cell q2 hn1
                        have k3 := hgC.cell q3 hn1
                        clear hgC
                        go_wp2_with fail
                        refine (HD _ hRC.out).mono ?_
                        rintro e wD ⟨rfl, hRD, hgD⟩
                        have HMf := hide (hMC.out.keep hgD hne)
                        have HBf := hide (hBC.out.trans ((Kp.ofH (g := g) hgD).below hgle hg'le hBC.out.size))
                        have HRf := hide hRD
                        clear hgD hRD hMC hRC hBC k1 k2 k3 q1 q2 q3
                        go_wp2_with fail
                        refine (same_err f _).mono ?_
                        rintro e w' ⟨rfl, rfl⟩
                        have HRel := hide HREL
                        cases h5 : ((i : Int) % 5 == 0) with
                        | false =>
                          go_wp2
                          go_round
                          case rel => exact ⟨i + 1, g, m, r, by omega, by go_num, rfl, hide ⟨HRel.out, HMf.out, HRf.out, hne, hgle, HBf.out⟩⟩
                          case measure => simp [intOf]; omega
                        | true =>
                          go_wp2_with fail
                          refine (asMem_any HRel.out hne HMf.out HRf.out).mono ?_
                          rintro e wZ ⟨rfl, hMz, hRz, hKz⟩
                          have HBz := hide (HBf.out.trans (hKz.below hgle hg'le HBf.out.size))
                          replace hMz := hide hMz
                          replace hRz := hide hRz
                          clear hKz
                          go_wp2
                          go_round
                          case rel => exact ⟨i + 1, g, m, r, by omega, by go_num, rfl, hide ⟨HRel.out, hMz.out, hRz.out, hne, hgle, HBz.out⟩⟩
                          case measure => simp [intOf]; omega
                    | false =>
                      as_aux_lemma =>
                        obtain ⟨gn, hgn, HCP⟩ := copy_ex HMA.out
                        have hgg : g ≠ gn := fun e => by have h2 := HMA.out.lt; omega
                        have hgg' : gn ≠ g' := fun e => by have h2 := HRA.out.lt; omega
                        have hgle2 : w.heap.size ≤ gn := by have h2 := HMA.out.lt; omega
                        clear hgn
                        go_wp2_with fail
                        refine HCP.mono ?_
                        rintro e wC ⟨rfl, hMN, hbN⟩
                        have hM1 := hide (HMA.out.on hbN)
                        have hR1 := hide (HRA.out.on hbN)
                        have hB1 := hide (HBA.out.trans (hbN.mono HBA.out.size))
                        replace hMN := hide hMN
                        clear HCP hbN HMA HRA HBA q1 q2 q3 q4 hn1 hn2
                        obtain ⟨f1, m1, r1, rel1, HC1, _⟩ := both_map HREL g g' 0 true
                        obtain ⟨f2, m2, r2, rel2, HC2, _⟩ := both_put rel1 g g' 0 ⟨#[111, 116, 104, 101, 114]⟩ (by decide) (by decide)
                        obtain ⟨f3, x3, m3, r3, rel3, HC3, _⟩ := both_seal rel2 g g' ⟨#[111, 116, 104, 101, 114]⟩ (by decide)
                        replace HC2 : CodeC 25 #[.pointer (some ⟨g, 0, none⟩), .int .u64 0, .string ⟨#[111, 116, 104, 101, 114]⟩] g m1 m2 (errV f2) := HC2
                        clear rel1 rel2 rel3
                        replace HREL' := hide HREL
                        go_wp2_with fail
                        refine (HC1 _ hM1.out).mono ?_
                        rintro e wE ⟨rfl, hM2, hg2⟩
                        have hN2 := hide (hMN.out.keep hg2 (Ne.symm hgg))
                        have hR2 := hide (hR1.out.keep hg2 (Ne.symm hne))
                        have hB2 := hide (hB1.out.trans ((Kp.ofG (h := g') hg2).below hgle hg'le hB1.out.size))
                        replace hM2 := hide hM2
                        clear hg2 hMN hR1 hB1 hM1 HC1
                        go_wp2_with fail
                        refine (HC2 _ hM2.out).mono ?_
                        rintro e wF ⟨rfl, hM3, hg3⟩
                        have hN3 := hide (hN2.out.keep hg3 (Ne.symm hgg))
                        have hR3 := hide (hR2.out.keep hg3 (Ne.symm hne))
                        have hB3 := hide (hB2.out.trans ((Kp.ofG (h := g') hg3).below hgle hg'le hB2.out.size))
                        replace hM3 := hide hM3
                        clear hg3 hN2 hR2 hB2 hM2 HC2
                        go_wp2_with fail
                        refine (HC3 _ hM3.out).mono ?_
                        rintro e wG ⟨rfl, hM4, hg4⟩
                        have HMf := hide (hN3.out.keep hg4 (Ne.symm hgg))
                        have HRf := hide (hR3.out.keep hg4 (Ne.symm hne))
                        have HBf := hide (hB3.out.trans ((Kp.ofG (h := g') hg4).below hgle hg'le hB3.out.size))
                        have HRel := hide HREL
                        clear hg4 hN3 hR3 hB3 hM3 HC3 hM4
                        cases h5 : ((i : Int) % 5 == 0) with
                        | false =>
                          go_wp2
                          go_round
                          case rel => exact ⟨i + 1, gn, m, r, by omega, by go_num, rfl, hide ⟨HRel.out, HMf.out, HRf.out, hgg', hgle2, HBf.out⟩⟩
                          case measure => simp [intOf]; omega
                        | true =>
                          go_wp2_with fail
                          refine (asMem_any HRel.out hgg' HMf.out HRf.out).mono ?_
                          rintro e wZ ⟨rfl, hMz, hRz, hKz⟩
                          have HBz := hide (HBf.out.trans (hKz.below hgle2 hg'le HBf.out.size))
                          replace hMz := hide hMz
                          replace hRz := hide hRz
                          clear hKz
                          go_wp2
                          go_round
                          case rel => exact ⟨i + 1, gn, m, r, by omega, by go_num, rfl, hide ⟨HRel.out, hMz.out, hRz.out, hgg', hgle2, HBz.out⟩⟩
                          case measure => simp [intOf]; omega
    · obtain rfl : i = n := by omega
      obtain ⟨HREL, hM, hR, hne, hgle, hB⟩ := HG.out
      go_wp2_with fail
      refine (asMem_any HREL hne hM hR).mono ?_
      rintro e wZ ⟨rfl, hMz, hRz, hKz⟩
      have HBz := hide (hB.trans (hKz.below hgle hg'le hB.size))
      clear hKz hMz hRz HG
      go_wp2
      go_ret
      exact ⟨rfl, HBz.out⟩
set_option maxRecDepth 100000 in
theorem memSays_heavy (oa : Option Addr) (n cap : Nat) (hn : n ≤ 9223372036854775807) (L : Nat → AC) (w : World) (hA : IsActs oa n L w) (hl : lightR n L 60 = false) :
    Calls Try.prog 5 #[.slice oa n cap] w fun e w' => e = .returned (.bool true) ∧ Below w.heap.size w w' := by
  have HA := hide hA
  have HL := hide hl
  clear hA hl
  go_enter Try.func5, Try.ntmps5
  go_wp2_with fail
  refine (stays_any _).mono ?_
  rintro e w1 ⟨rfl, hb1⟩
  have HLI := light_any oa n cap hn L 60 w1 (HA.out.on hb1)
  rw [HL.out] at HLI
  go_wp2_with fail
  refine HLI.mono ?_
  rintro e w' ⟨rfl, rfl⟩
  clear HLI
  go_wp2
  go_ret
  exact ⟨rfl, hb1⟩
/-- The law holds of all acts. -/
theorem memSays_any (oa : Option Addr) (n cap : Nat) (hn : n ≤ 9223372036854775807) (L : Nat → AC) (w : World) (hA : IsActs oa n L w) :
    Calls Try.prog 5 #[.slice oa n cap] w fun e w' => e = .returned (.bool true) ∧ Below w.heap.size w w' := by
  cases hl : lightR n L 60 with
  | false => exact memSays_heavy oa n cap hn L w hA hl
  | true => exact memSays_light oa n cap (by have := (light_spec hl).1; omega) L w hA (light_spec hl).2 hl
end Go.Proofs.Ytlpcjonklfnejaa
