/- TopSafe returns true, for all that comes in, and leaves it as it was. -/
import Derived.Test.YtlgghomjlhnijaaGreatK12
import Derived.Test.YtlgghomjlhnijaaGreatK1
import Derived.ProofKit
import Derived.Carry
import Derived.OpenShut
import Derived.Deep.Slices
import Derived.Lib.SmallJoins
import Derived.Test.YtlgghomjlhnijaaGreatK6
import Derived.Test.YtlgghomjlhnijaaGreatK5
/- The walk of TopSafe. -/
namespace Go.Proofs.YtlgghomjlhnijaaGreat
open Go.RowKit Mm

/-- How many pages may be sealed for the first k threads. -/
def execTo (s : WS) : Nat → Nat
  | 0 => 0
  | k + 1 => execTo s k + execN s k
theorem execTo_le (s : WS) : ∀ k, execTo s k ≤ k * 2
  | 0 => Nat.le_refl _
  | k + 1 => by
    have := execTo_le s k
    show execTo s k + execN s k ≤ _
    unfold execN
    split <;> omega
set_option maxHeartbeats 8000000 in
set_option maxRecDepth 100000 in
theorem topSafe_any (p : POL) (oa : Option Addr) (cap : Nat) (ob : Option Addr) (nb capb : Nat) (hnb : nb ≤ 9223372036854775807) (B : Nat → AC) (w : World) (hp : IsPol oa cap p w) (hB : IsActs ob nb B w) :
    Calls Tryz.prog 3 #[polV p oa cap, .slice ob nb capb] w fun e w' => e = .returned (.bool true) ∧ Below w.heap.size w w' := by
  obtain ⟨V, hV, hVb, hsz, hVx⟩ := one_box w #[.slice oa p.rules.length cap, .int .i64 p.els.kind, .int .i64 p.els.errno] 26
  have x0 := hVx 0
  have x1 := hVx 1
  have x2 := hVx 2
  simp only [List.getElem?_toArray, List.getElem?_cons_zero, List.getElem?_cons_succ] at x0 x1 x2
  have HPV := hide (hp.on hVb)
  have HBV := hide (hB.on hVb)
  have HLP := lightPol_any p oa cap V HPV.out
  have HLB := fun X (hX : Below V.heap.size V X) => Mm.light_any ob nb capb hnb B 60 X (HBV.out.on hX)
  have HNE := fun (hf : polF p ≠ 0) X (hX : Below V.heap.size V X) => new_err p hf oa cap X (HPV.out.on hX)
  have HNO := fun (hf : polF p = 0) X (hX : Below V.heap.size V X) => new_ok p hf oa cap X (HPV.out.on hX)
  have HDE := fun (k : KL) (hk : KlOk k) (v : VS) (hv : VsOk v) X (hX : Below V.heap.size V X) => decide_any p oa cap k hk v hv X (HPV.out.on hX)
  have HDV := hide (show ∀ (hf : polF p = 0) k v, decideV p k v = .tuple #[actV (decideR p k v), .nilIface] from fun hf k v => by unfold decideV; rw [if_pos hf, hf]; rfl)
  have HPQ := hide (show ∀ _ : polF p = 0, PolOk p from fun hf => pol_ok hf hp.ok)
  have HVB := hide hVb
  obtain ⟨np, hnp⟩ : ∃ n, n = p.rules.length := ⟨_, rfl⟩
  obtain ⟨lz, hlz⟩ : ∃ z, z = lightB p := ⟨_, rfl⟩
  rw [← hlz] at HLP
  unfold polV at HLP HNE HNO HDE ⊢
  simp only [← hnp] at hV x0 HLP HNE HNO HDE ⊢
  obtain ⟨ak, hak⟩ : ∃ n, n = p.els.kind := ⟨_, rfl⟩
  obtain ⟨ae, hae⟩ : ∃ n, n = p.els.errno := ⟨_, rfl⟩
  simp only [← hak, ← hae] at hV x1 x2 HLP HNE HNO HDE ⊢
  clear hVx hp hB hVb hnp hlz hak hae hsz
  go_enter Tryz.func3, Tryz.ntmps3
  go_wp2_with fail
  rw [← hV]
  clear hV
  refine HLP.mono ?_
  rintro e W1 ⟨rfl, hb1⟩
  have H1 := hide hb1
  clear HLP hb1
  cases lz with
  | false => as_aux_lemma =>
    go_wp2
    go_ret
    exact ⟨rfl, below_next HVB.out H1.out⟩
  | true =>
    go_wp2_with fail
    refine (HLB W1 H1.out).mono ?_
    rintro e W2 ⟨rfl, hw⟩
    rw [hw]
    clear hw
    cases hlb : Mm.lightR nb B 60 with
    | false => as_aux_lemma =>
      go_wp2
      go_ret
      exact ⟨rfl, below_next HVB.out H1.out⟩
    | true =>
      have z0 := keep_cell H1.out x0
      have z1 := keep_cell H1.out x1
      have z2 := keep_cell H1.out x2
      by_cases hf : polF p = 0
      · have HN := HNO hf W1 H1.out
        have HQ := HPQ.out hf
        have HLI := hide (Mm.light_spec hlb)
        replace HDV := hide (HDV.out hf)
        clear HNE HNO HPQ HLB hlb
        go_wp2_with fail
        refine HN.mono ?_
        rintro e W3 ⟨g, gm, P, rfl, hN⟩
        have HW0 := hide (WL.start hN H1.out)
        clear hN HN H1 z0 z1 z2
        go_wp2
        go_loopw [7] (fun I w' => ∃ (i : Nat) (lv : Value) (s : WS), i ≤ nb ∧ I = .int .i64 i ∧ Hid (WL p g gm P lv s (i * 90) V w')) (fun I _ => nb - (intOf I).toNat)
        case atStart => exact ⟨0, _, _, by omega, rfl, HW0⟩
        case round =>
          obtain ⟨i, lv, s, hi, rfl, HX⟩ := hrel
          clear HW0
          have hnb60 : nb ≤ 60 := by have := HLI.out.1; omega
          have i1 : (0 : Int) ≤ i := by omega
          by_cases hlt : i < nb
          · as_aux_lemma =>
            obtain ⟨b, off, rfl, hA⟩ := acts_at HBV.out HX.out.below hlt
            have HD := HX.out.did hf HQ (by omega) (B i) hA.cOk hA.aLt (HLI.out.2 i hlt)
            unfold acC at HD
            have c0 := hA.k0
            have c1 := hA.k1
            have c2 := hA.k2
            have c3 := hA.k3
            have c4 := hA.k4
            have c5 := hA.k5
            have c6 := hA.k6
            have c7 := hA.k7
            have c8 := hA.k8
            have c9 := hA.k9
            have c10 := hA.k10
            have i2 : (i : Int) < nb := by omega
            obtain ⟨x, hx⟩ : ∃ x, x = B i := ⟨_, rfl⟩
            rw [← hx] at c0 c1 c2 c3 c4 c5 c6 c7 c8 c9 c10 HD
            clear hA hx HX
            go_wp2_with fail
            refine HD.mono ?_
            rintro e w4 ⟨rfl, lv4, h4⟩
            obtain ⟨s4, hs4⟩ : ∃ y, y = didS p x s := ⟨_, rfl⟩
            rw [← hs4] at h4
            have HX := hide h4
            clear h4 hs4 HD c0 c1 c2 c3 c4 c5 c6 c7 c8 c9 c10
            go_wp2
            go_loopw [8, 9] (fun Sd N w' => ∃ k : Nat, k ≤ 3 ∧ N = .int .i64 k ∧ Sd = .int .i64 (execTo s4 k : Nat) ∧ w' = w4) (fun _ N _ => 3 - (intOf N).toNat)
            case atStart => exact ⟨0, by omega, rfl, rfl, rfl⟩
            case round =>
              obtain ⟨k, hk3, rfl, rfl, hwr⟩ := hrel
              rw [hwr]
              clear hwr
              by_cases hkl : k < 3
              · have HPH := HX.out.phase (k : Int)
                rw [phase_of hkl] at HPH
                have e3 : (k : Int) < 3 := by omega
                have hse : execTo s4 (k + 1) = execTo s4 k + if (s4.T k).phase = 5 then 2 else 0 := rfl
                have hle := execTo_le s4 k
                obtain ⟨ph, hph⟩ : ∃ y, y = (s4.T k).phase := ⟨_, rfl⟩
                rw [← hph] at HPH hse
                obtain ⟨sd, hsd⟩ : ∃ y, y = execTo s4 k := ⟨_, rfl⟩
                rw [← hsd] at hse hle
                simp only [← hsd]
                have HSE := hide hse
                clear hph hsd hse
                by_cases h5 : ph = 5
                · rw [if_pos h5] at HSE
                  subst h5
                  go_wp2_with fail
                  refine HPH.mono ?_
                  rintro e w' ⟨rfl, hw⟩
                  rw [hw]
                  clear hw HPH
                  go_wp2
                  go_round
                  case rel => exact ⟨k + 1, by omega, by go_num, by rw [HSE.out]; go_num, by first | rfl | trivial⟩
                  case measure => simp [intOf]; omega
                · rw [if_neg h5] at HSE
                  have b5 : ((ph : Int) == 5) = false := by simp; omega
                  go_wp2_with fail
                  refine HPH.mono ?_
                  rintro e w' ⟨rfl, hw⟩
                  rw [hw]
                  clear hw HPH
                  go_wp2
                  go_round
                  case rel => exact ⟨k + 1, by omega, by go_num, by rw [HSE.out]; rfl, by first | rfl | trivial⟩
                  case measure => simp [intOf]; omega
              · obtain rfl : k = 3 := by omega
                have hfew : cntM s4.mem 4 ≤ execTo s4 3 := by
                  have := sealed_few HX.out.inv
                  show _ ≤ 0 + execN s4 0 + execN s4 1 + execN s4 2
                  omega
                have HMM := wmem_any HX.out.ward
                obtain ⟨sd, hsd⟩ : ∃ y, y = execTo s4 3 := ⟨_, rfl⟩
                rw [← hsd] at hfew
                simp only [← hsd]
                clear hsd
                go_wp2_with fail
                refine HMM.mono ?_
                rintro e w5 ⟨rfl, hM5, hb5⟩
                have HSL := sealed_isM hM5
                obtain ⟨cn, hcn⟩ : ∃ y, y = cntM s4.mem 4 := ⟨_, rfl⟩
                rw [← hcn] at HSL hfew
                have hgt : ¬ ((sd : Int) < (cn : Int)) := by omega
                clear hcn hM5 HMM
                go_wp2_with fail
                refine HSL.mono ?_
                rintro e w6 ⟨rfl, _, hb6⟩
                have HX6 := hide (HX.out.on (hb5.trans hb6))
                clear HSL hb5 hb6 hfew
                go_wp2
                go_round
                case rel => exact ⟨i + 1, lv4, s4, by omega, by go_num, hide (HX6.out.weak (by omega))⟩
                case measure => simp [intOf]; omega
          · have i2 : ¬ ((i : Int) < nb) := by omega
            have HL := HX.out.logs (by omega)
            obtain ⟨LL, hLL⟩ : ∃ x, x = s.log.length := ⟨_, rfl⟩
            rw [← hLL] at HL
            have HLLH := hide hLL
            have hLk : LL ≤ 5400 := by rw [hLL]; have := HX.out.log; omega
            clear hLL hlt
            go_wp2_with fail
            refine HL.mono ?_
            rintro e w3 ⟨rfl, hrow3, hb3⟩
            have HROW := hide hrow3
            have HB3 := hide (below_next HX.out.below hb3)
            have HEN := hide HX.out.inv.log
            obtain ⟨r8, hr8⟩ : ∃ x, x = wr.heap.size := ⟨_, rfl⟩
            rw [← hr8] at HROW
            rw [← hr8]
            clear hr8 HL hrow3 hb3 HX
            go_wp2
            go_loopw [12] (fun I w' => ∃ j : Nat, j ≤ LL ∧ I = .int .i64 j ∧ Hid (Below w3.heap.size w3 w')) (fun I _ => LL - (intOf I).toNat)
            case atStart => exact ⟨0, by omega, rfl, hide (Below.refl _ _)⟩
            case round =>
              obtain ⟨j, hjl, rfl, HB⟩ := hrel
              have HBW := hide (below_next HB3.out HB.out)
              have t1 : (0 : Int) ≤ j := by omega
              by_cases hlj : j < LL
              · have t2 : (j : Int) < LL := by omega
                have hrow := (HB.out.block _ (Array.getElem?_eq_some_iff.1 HROW.out).1).trans HROW.out
                obtain ⟨en, hen⟩ : ∃ e, s.log[j]? = some e := ⟨_, List.getElem?_eq_getElem (by rw [← HLLH.out]; exact hlj)⟩
                have hok := HEN.out en (List.mem_of_getElem? hen)
                have a0 : wr.cell? ⟨r8, j * 21, none⟩ = some (.int .i64 (en.kind : Nat)) := log_cell hrow hen 0 (by omega) rfl
                by_cases hk1 : en.kind = 1
                · have hsafe := hok.safe hk1
                  obtain ⟨kd, th, k, v, er⟩ := en
                  simp only at hk1 hsafe a0
                  subst hk1
                  have hkk := hok.kl
                  have hvv := hok.vs
                  simp only at hkk hvv
                  have HJ1 := HDE k hkk v hvv wr.drew (HBW.out.trans (Below.refl _ _).drew)
                  have HJ2 := HDE k hkk v hvv (wr.alloc (.cells #[.int .i64 0, .int .i64 0] 24)).drew ((below_next HBW.out (box_below wr _)).trans (Below.refl _ _).drew)
                  rw [HDV.out] at HJ1 HJ2
                  obtain ⟨⟨vk, ve⟩, hva⟩ : ∃ a, a = decideR p k v := ⟨_, rfl⟩
                  rw [← hva] at HJ1 HJ2 hsafe
                  unfold actV klV klC vsV vsC at HJ1 HJ2
                  simp only at HJ1 HJ2 hsafe
                  subst hsafe
                  have q0 := x0
                  have q1 := x1
                  have q2 := x2
                  have y0 : wr.cell? ⟨w.heap.size, 0, none⟩ = some (.slice oa np cap) := keep_cell HBW.out q0
                  have y1 : wr.cell? ⟨w.heap.size, 1, none⟩ = some (.int .i64 ak) := keep_cell HBW.out q1
                  have y2 : wr.cell? ⟨w.heap.size, 2, none⟩ = some (.int .i64 ae) := keep_cell HBW.out q2
                  have y3 : wr.cell? ⟨r8, j * 21 + 2, none⟩ = some (.int .u32 (k.arch : Nat)) := log_cell hrow hen 2 (by omega) rfl
                  have y4 : wr.cell? ⟨r8, j * 21 + 2 + 1, none⟩ = some (.int .u32 (k.nr : Nat)) := log_cell hrow hen 3 (by omega) rfl
                  have y5 : wr.cell? ⟨r8, j * 21 + 2 + 2, none⟩ = some (.int .u64 (k.a0 : Nat)) := log_cell hrow hen 4 (by omega) rfl
                  have y6 : wr.cell? ⟨r8, j * 21 + 2 + 3, none⟩ = some (.int .u64 (k.a1 : Nat)) := log_cell hrow hen 5 (by omega) rfl
                  have y7 : wr.cell? ⟨r8, j * 21 + 2 + 4, none⟩ = some (.int .u64 (k.a2 : Nat)) := log_cell hrow hen 6 (by omega) rfl
                  have y8 : wr.cell? ⟨r8, j * 21 + 2 + 5, none⟩ = some (.int .u64 (k.a3 : Nat)) := log_cell hrow hen 7 (by omega) rfl
                  have y9 : wr.cell? ⟨r8, j * 21 + 8, none⟩ = some (.string v.v0.path) := log_cell hrow hen 8 (by omega) rfl
                  have y10 : wr.cell? ⟨r8, j * 21 + 8 + 1, none⟩ = some (.int .u32 (v.v0.ip : Nat)) := log_cell hrow hen 9 (by omega) rfl
                  have y11 : wr.cell? ⟨r8, j * 21 + 8 + 2, none⟩ = some (.int .i64 v.v0.port) := log_cell hrow hen 10 (by omega) rfl
                  have y12 : wr.cell? ⟨r8, j * 21 + 8 + 3, none⟩ = some (.string v.v1.path) := log_cell hrow hen 11 (by omega) rfl
                  have y13 : wr.cell? ⟨r8, j * 21 + 8 + 4, none⟩ = some (.int .u32 (v.v1.ip : Nat)) := log_cell hrow hen 12 (by omega) rfl
                  have y14 : wr.cell? ⟨r8, j * 21 + 8 + 5, none⟩ = some (.int .i64 v.v1.port) := log_cell hrow hen 13 (by omega) rfl
                  have y15 : wr.cell? ⟨r8, j * 21 + 8 + 6, none⟩ = some (.string v.v2.path) := log_cell hrow hen 14 (by omega) rfl
                  have y16 : wr.cell? ⟨r8, j * 21 + 8 + 7, none⟩ = some (.int .u32 (v.v2.ip : Nat)) := log_cell hrow hen 15 (by omega) rfl
                  have y17 : wr.cell? ⟨r8, j * 21 + 8 + 8, none⟩ = some (.int .i64 v.v2.port) := log_cell hrow hen 16 (by omega) rfl
                  have y18 : wr.cell? ⟨r8, j * 21 + 8 + 9, none⟩ = some (.string v.v3.path) := log_cell hrow hen 17 (by omega) rfl
                  have y19 : wr.cell? ⟨r8, j * 21 + 8 + 10, none⟩ = some (.int .u32 (v.v3.ip : Nat)) := log_cell hrow hen 18 (by omega) rfl
                  have y20 : wr.cell? ⟨r8, j * 21 + 8 + 11, none⟩ = some (.int .i64 v.v3.port) := log_cell hrow hen 19 (by omega) rfl
                  have hrZ : r8 ≠ wr.heap.size := Nat.ne_of_lt (Array.getElem?_eq_some_iff.1 hrow).1
                  have hwZ : w.heap.size ≠ wr.heap.size := Nat.ne_of_lt (block_lt_of_cell y0)
                  clear hva hkk hvv hok hen hrow x0 x1 x2 q0 q1 q2 HDE
                  have x0 := keep_cell (box_below wr (.cells #[.int .i64 0, .int .i64 0] 24)) y0
                  have x1 := keep_cell (box_below wr (.cells #[.int .i64 0, .int .i64 0] 24)) y1
                  have x2 := keep_cell (box_below wr (.cells #[.int .i64 0, .int .i64 0] 24)) y2
                  have x3 := keep_cell (box_below wr (.cells #[.int .i64 0, .int .i64 0] 24)) y3
                  have x4 := keep_cell (box_below wr (.cells #[.int .i64 0, .int .i64 0] 24)) y4
                  have x5 := keep_cell (box_below wr (.cells #[.int .i64 0, .int .i64 0] 24)) y5
                  have x6 := keep_cell (box_below wr (.cells #[.int .i64 0, .int .i64 0] 24)) y6
                  have x7 := keep_cell (box_below wr (.cells #[.int .i64 0, .int .i64 0] 24)) y7
                  have x8 := keep_cell (box_below wr (.cells #[.int .i64 0, .int .i64 0] 24)) y8
                  have x9 := keep_cell (box_below wr (.cells #[.int .i64 0, .int .i64 0] 24)) y9
                  have x10 := keep_cell (box_below wr (.cells #[.int .i64 0, .int .i64 0] 24)) y10
                  have x11 := keep_cell (box_below wr (.cells #[.int .i64 0, .int .i64 0] 24)) y11
                  have x12 := keep_cell (box_below wr (.cells #[.int .i64 0, .int .i64 0] 24)) y12
                  have x13 := keep_cell (box_below wr (.cells #[.int .i64 0, .int .i64 0] 24)) y13
                  have x14 := keep_cell (box_below wr (.cells #[.int .i64 0, .int .i64 0] 24)) y14
                  have x15 := keep_cell (box_below wr (.cells #[.int .i64 0, .int .i64 0] 24)) y15
                  have x16 := keep_cell (box_below wr (.cells #[.int .i64 0, .int .i64 0] 24)) y16
                  have x17 := keep_cell (box_below wr (.cells #[.int .i64 0, .int .i64 0] 24)) y17
                  have x18 := keep_cell (box_below wr (.cells #[.int .i64 0, .int .i64 0] 24)) y18
                  have x19 := keep_cell (box_below wr (.cells #[.int .i64 0, .int .i64 0] 24)) y19
                  have x20 := keep_cell (box_below wr (.cells #[.int .i64 0, .int .i64 0] 24)) y20
                  replace y0 : wr.drew.cell? _ = _ := y0
                  replace y1 : wr.drew.cell? _ = _ := y1
                  replace y2 : wr.drew.cell? _ = _ := y2
                  replace y3 : wr.drew.cell? _ = _ := y3
                  replace y4 : wr.drew.cell? _ = _ := y4
                  replace y5 : wr.drew.cell? _ = _ := y5
                  replace y6 : wr.drew.cell? _ = _ := y6
                  replace y7 : wr.drew.cell? _ = _ := y7
                  replace y8 : wr.drew.cell? _ = _ := y8
                  replace y9 : wr.drew.cell? _ = _ := y9
                  replace y10 : wr.drew.cell? _ = _ := y10
                  replace y11 : wr.drew.cell? _ = _ := y11
                  replace y12 : wr.drew.cell? _ = _ := y12
                  replace y13 : wr.drew.cell? _ = _ := y13
                  replace y14 : wr.drew.cell? _ = _ := y14
                  replace y15 : wr.drew.cell? _ = _ := y15
                  replace y16 : wr.drew.cell? _ = _ := y16
                  replace y17 : wr.drew.cell? _ = _ := y17
                  replace y18 : wr.drew.cell? _ = _ := y18
                  replace y19 : wr.drew.cell? _ = _ := y19
                  replace y20 : wr.drew.cell? _ = _ := y20
                  replace x0 : (wr.alloc (.cells #[.int .i64 0, .int .i64 0] 24)).drew.cell? _ = _ := x0
                  replace x1 : (wr.alloc (.cells #[.int .i64 0, .int .i64 0] 24)).drew.cell? _ = _ := x1
                  replace x2 : (wr.alloc (.cells #[.int .i64 0, .int .i64 0] 24)).drew.cell? _ = _ := x2
                  replace x3 : (wr.alloc (.cells #[.int .i64 0, .int .i64 0] 24)).drew.cell? _ = _ := x3
                  replace x4 : (wr.alloc (.cells #[.int .i64 0, .int .i64 0] 24)).drew.cell? _ = _ := x4
                  replace x5 : (wr.alloc (.cells #[.int .i64 0, .int .i64 0] 24)).drew.cell? _ = _ := x5
                  replace x6 : (wr.alloc (.cells #[.int .i64 0, .int .i64 0] 24)).drew.cell? _ = _ := x6
                  replace x7 : (wr.alloc (.cells #[.int .i64 0, .int .i64 0] 24)).drew.cell? _ = _ := x7
                  replace x8 : (wr.alloc (.cells #[.int .i64 0, .int .i64 0] 24)).drew.cell? _ = _ := x8
                  replace x9 : (wr.alloc (.cells #[.int .i64 0, .int .i64 0] 24)).drew.cell? _ = _ := x9
                  replace x10 : (wr.alloc (.cells #[.int .i64 0, .int .i64 0] 24)).drew.cell? _ = _ := x10
                  replace x11 : (wr.alloc (.cells #[.int .i64 0, .int .i64 0] 24)).drew.cell? _ = _ := x11
                  replace x12 : (wr.alloc (.cells #[.int .i64 0, .int .i64 0] 24)).drew.cell? _ = _ := x12
                  replace x13 : (wr.alloc (.cells #[.int .i64 0, .int .i64 0] 24)).drew.cell? _ = _ := x13
                  replace x14 : (wr.alloc (.cells #[.int .i64 0, .int .i64 0] 24)).drew.cell? _ = _ := x14
                  replace x15 : (wr.alloc (.cells #[.int .i64 0, .int .i64 0] 24)).drew.cell? _ = _ := x15
                  replace x16 : (wr.alloc (.cells #[.int .i64 0, .int .i64 0] 24)).drew.cell? _ = _ := x16
                  replace x17 : (wr.alloc (.cells #[.int .i64 0, .int .i64 0] 24)).drew.cell? _ = _ := x17
                  replace x18 : (wr.alloc (.cells #[.int .i64 0, .int .i64 0] 24)).drew.cell? _ = _ := x18
                  replace x19 : (wr.alloc (.cells #[.int .i64 0, .int .i64 0] 24)).drew.cell? _ = _ := x19
                  replace x20 : (wr.alloc (.cells #[.int .i64 0, .int .i64 0] 24)).drew.cell? _ = _ := x20
                  have zb : (wr.alloc (.cells #[.int .i64 0, .int .i64 0] 24)).drew.heap[wr.heap.size]? = some (.cells #[.int .i64 0, .int .i64 0] 24 (0, 0)) := heap_alloc_new wr _
                  go_wp2_with fail
                  go_cut [13, 14] from 72 to 101 (fun S E w2 => E = .nilIface ∧ ∃ r13 : Nat, S = .pointer (some ⟨r13, 0, none⟩) ∧ Hid (Below wr.heap.size wr w2) ∧ Hid (w2.heap[r13]? = some (.cells #[.int .i64 1, .int .i64 ve] 24 (0, 0))))
                  case first => as_aux_lemma =>
                    go_region_held3 (fun w' => w'.cell? ⟨w.heap.size, 0, none⟩ = some (.slice oa np cap) ∧ w'.cell? ⟨w.heap.size, 1, none⟩ = some (.int .i64 ak) ∧ w'.cell? ⟨w.heap.size, 2, none⟩ = some (.int .i64 ae) ∧ w'.cell? ⟨r8, j * 21 + 2, none⟩ = some (.int .u32 (k.arch : Nat)) ∧ w'.cell? ⟨r8, j * 21 + 2 + 1, none⟩ = some (.int .u32 (k.nr : Nat)) ∧ w'.cell? ⟨r8, j * 21 + 2 + 2, none⟩ = some (.int .u64 (k.a0 : Nat)) ∧ w'.cell? ⟨r8, j * 21 + 2 + 3, none⟩ = some (.int .u64 (k.a1 : Nat)) ∧ w'.cell? ⟨r8, j * 21 + 2 + 4, none⟩ = some (.int .u64 (k.a2 : Nat)) ∧ w'.cell? ⟨r8, j * 21 + 2 + 5, none⟩ = some (.int .u64 (k.a3 : Nat)) ∧ w'.cell? ⟨r8, j * 21 + 8, none⟩ = some (.string v.v0.path) ∧ w'.cell? ⟨r8, j * 21 + 8 + 1, none⟩ = some (.int .u32 (v.v0.ip : Nat)) ∧ w'.cell? ⟨r8, j * 21 + 8 + 2, none⟩ = some (.int .i64 v.v0.port) ∧ w'.cell? ⟨r8, j * 21 + 8 + 3, none⟩ = some (.string v.v1.path) ∧ w'.cell? ⟨r8, j * 21 + 8 + 4, none⟩ = some (.int .u32 (v.v1.ip : Nat)) ∧ w'.cell? ⟨r8, j * 21 + 8 + 5, none⟩ = some (.int .i64 v.v1.port) ∧ w'.cell? ⟨r8, j * 21 + 8 + 6, none⟩ = some (.string v.v2.path) ∧ w'.cell? ⟨r8, j * 21 + 8 + 7, none⟩ = some (.int .u32 (v.v2.ip : Nat)) ∧ w'.cell? ⟨r8, j * 21 + 8 + 8, none⟩ = some (.int .i64 v.v2.port) ∧ w'.cell? ⟨r8, j * 21 + 8 + 9, none⟩ = some (.string v.v3.path) ∧ w'.cell? ⟨r8, j * 21 + 8 + 10, none⟩ = some (.int .u32 (v.v3.ip : Nat)) ∧ w'.cell? ⟨r8, j * 21 + 8 + 11, none⟩ = some (.int .i64 v.v3.port))
                      (first | (with_reducible exact ⟨y0, y1, y2, y3, y4, y5, y6, y7, y8, y9, y10, y11, y12, y13, y14, y15, y16, y17, y18, y19, y20⟩) | (with_reducible exact ⟨x0, x1, x2, x3, x4, x5, x6, x7, x8, x9, x10, x11, x12, x13, x14, x15, x16, x17, x18, x19, x20⟩) | (with_reducible exact ⟨r0, r1, r2, r3, r4, r5, r6, r7, r8, r9, r10, r11, r12, r13, r14, r15, r16, r17, r18, r19, r20⟩) | (with_reducible exact ⟨keep_cell (box_below wr.drew _) y0, keep_cell (box_below wr.drew _) y1, keep_cell (box_below wr.drew _) y2, keep_cell (box_below wr.drew _) y3, keep_cell (box_below wr.drew _) y4, keep_cell (box_below wr.drew _) y5, keep_cell (box_below wr.drew _) y6, keep_cell (box_below wr.drew _) y7, keep_cell (box_below wr.drew _) y8, keep_cell (box_below wr.drew _) y9, keep_cell (box_below wr.drew _) y10, keep_cell (box_below wr.drew _) y11, keep_cell (box_below wr.drew _) y12, keep_cell (box_below wr.drew _) y13, keep_cell (box_below wr.drew _) y14, keep_cell (box_below wr.drew _) y15, keep_cell (box_below wr.drew _) y16, keep_cell (box_below wr.drew _) y17, keep_cell (box_below wr.drew _) y18, keep_cell (box_below wr.drew _) y19, keep_cell (box_below wr.drew _) y20⟩) | (with_reducible exact ⟨keep_cell (box_below Y _) r0, keep_cell (box_below Y _) r1, keep_cell (box_below Y _) r2, keep_cell (box_below Y _) r3, keep_cell (box_below Y _) r4, keep_cell (box_below Y _) r5, keep_cell (box_below Y _) r6, keep_cell (box_below Y _) r7, keep_cell (box_below Y _) r8, keep_cell (box_below Y _) r9, keep_cell (box_below Y _) r10, keep_cell (box_below Y _) r11, keep_cell (box_below Y _) r12, keep_cell (box_below Y _) r13, keep_cell (box_below Y _) r14, keep_cell (box_below Y _) r15, keep_cell (box_below Y _) r16, keep_cell (box_below Y _) r17, keep_cell (box_below Y _) r18, keep_cell (box_below Y _) r19, keep_cell (box_below Y _) r20⟩) | (with_reducible exact ⟨keepa hwZ r0, keepa hwZ r1, keepa hwZ r2, keepa hrZ r3, keepa hrZ r4, keepa hrZ r5, keepa hrZ r6, keepa hrZ r7, keepa hrZ r8, keepa hrZ r9, keepa hrZ r10, keepa hrZ r11, keepa hrZ r12, keepa hrZ r13, keepa hrZ r14, keepa hrZ r15, keepa hrZ r16, keepa hrZ r17, keepa hrZ r18, keepa hrZ r19, keepa hrZ r20⟩) | go_keep)
                      ((first
                        | (go_at_call 14; with_reducible refine HJ1.mono ?_; rintro e Y ⟨rfl, hY⟩; have HB := hide (below_next (Below.refl _ wr).drew hY); have r0 := keep_cell hY y0; have r1 := keep_cell hY y1; have r2 := keep_cell hY y2; have r3 := keep_cell hY y3; have r4 := keep_cell hY y4; have r5 := keep_cell hY y5; have r6 := keep_cell hY y6; have r7 := keep_cell hY y7; have r8 := keep_cell hY y8; have r9 := keep_cell hY y9; have r10 := keep_cell hY y10; have r11 := keep_cell hY y11; have r12 := keep_cell hY y12; have r13 := keep_cell hY y13; have r14 := keep_cell hY y14; have r15 := keep_cell hY y15; have r16 := keep_cell hY y16; have r17 := keep_cell hY y17; have r18 := keep_cell hY y18; have r19 := keep_cell hY y19; have r20 := keep_cell hY y20; clear hY)
                        | (go_at_call 14; refine HJ2.mono ?_; rintro e Y ⟨rfl, hY⟩; have HB := hide (below_next (box_below wr (.cells #[.int .i64 0, .int .i64 0] 24)).drew hY); have r0 := keep_cell hY x0; have r1 := keep_cell hY x1; have r2 := keep_cell hY x2; have r3 := keep_cell hY x3; have r4 := keep_cell hY x4; have r5 := keep_cell hY x5; have r6 := keep_cell hY x6; have r7 := keep_cell hY x7; have r8 := keep_cell hY x8; have r9 := keep_cell hY x9; have r10 := keep_cell hY x10; have r11 := keep_cell hY x11; have r12 := keep_cell hY x12; have r13 := keep_cell hY x13; have r14 := keep_cell hY x14; have r15 := keep_cell hY x15; have r16 := keep_cell hY x16; have r17 := keep_cell hY x17; have r18 := keep_cell hY x18; have r19 := keep_cell hY x19; have r20 := keep_cell hY x20; have uh := (hY.block wr.heap.size (by show _ < (wr.alloc _).heap.size; rw [World.size_alloc]; exact Nat.lt_succ_self _)).trans zb; obtain ⟨⟨p0, p1⟩, g0, g1⟩ := arow_cells uh; clear hY)))
                    all_goals
                      go_wp2_with fail
                      go_meet
                      case rel => first
                        | with_reducible exact ⟨rfl, Y.heap.size, rfl, hide (below_next HB.out (box_below _ _)), hide (heap_alloc_new _ _)⟩
                        | exact ⟨rfl, wr.heap.size, rfl, hide (by rw [aset2 uh]; exact below_setRow HB.out (Nat.le_refl _) _), hide (by rw [aset2 uh]; exact setRow_heap _ _ _ _ _ _ uh)⟩
                  case rest =>
                    obtain ⟨rfl, r13, rfl, HB2, HR2⟩ := hcut
                    have d0 : wc.cell? ⟨r13, 0, none⟩ = some (.int .i64 1) := cell_of_row _ _ 0 _ _ _ HR2.out
                    clear zb HJ1 HJ2 a0 y0 y1 y2 y3 y4 y5 y6 y7 y8 y9 y10 y11 y12 y13 y14 y15 y16 y17 y18 y19 y20 x0 x1 x2 x3 x4 x5 x6 x7 x8 x9 x10 x11 x12 x13 x14 x15 x16 x17 x18 x19 x20
                    go_wp2
                    go_round
                    case rel => exact ⟨j + 1, by omega, by go_num, hide (below_next HB.out HB2.out)⟩
                    case measure => simp [intOf]; omega
                · obtain ⟨kd, hkd⟩ : ∃ y, y = en.kind := ⟨_, rfl⟩
                  rw [← hkd] at a0 hk1
                  have n1 : ¬ ((kd : Int) = 1) := by omega
                  have u1 : ((kd : Int) != 1) = true := by simp; omega
                  clear hkd hok hen hrow
                  go_wp2
                  go_round
                  case rel => exact ⟨j + 1, by omega, by go_num, HB⟩
                  case measure => simp [intOf]; omega
              · have t2 : ¬ ((j : Int) < LL) := by omega
                go_wp2
                go_ret
                exact ⟨rfl, below_next HVB.out HBW.out⟩
      · as_aux_lemma =>
        have HN := HNE hf W1 H1.out
        rw [errV_pos hf] at HN
        clear HNE HNO HPQ HLB hlb hf HDE HDV
        go_wp2_with fail
        refine HN.mono ?_
        rintro e W3 ⟨rfl, hb3⟩
        go_wp2
        go_ret
        exact ⟨rfl, below_next (below_next HVB.out H1.out) hb3⟩
end Go.Proofs.YtlgghomjlhnijaaGreat

/- The last step of a law's row: what 'post' asks, out of 'Below' (nothing that was there has turned), without the limb on frozen cells that 'again' alone wants. -/
namespace Go.Proofs.YtlgghomjlhnijaaGreat
open Go.ChangeShapes Go.WideShapes Go.ChangeAt Go.RowKit

theorem post_law {H : Type} {enc : TypeId × Value → H} {P : Program} {f : Func} {s : ChangeSpec} {apart fresh handsOn : Bool} {W W' : World} {args : Array Value} {v : Value} {ds gs : List (DataW H)} {before pa pv : List MemPlace}
    (hW : DataW.Whole enc P f.params.toList s.vars apart W args.toList ds gs before)
    (hres : ∀ (b : Nat) (sp : Nat → Bool) (hd : Bool), DataW.TrodAll enc P W' b sp hd f.resultTypes.toList (v.resultList f.resultTypes.size) (s.fn H (ds ++ gs)).results [])
    (hargs : ∀ sp : Nat → Bool, (∀ p ∈ before, sp p.block = true) → DataW.TrodAll enc P W' 0 sp true f.params.toList args.toList (s.fn H (ds ++ gs)).args pa)
    (hvars : ∀ sp : Nat → Bool, (∀ p ∈ before, sp p.block = true) → DataW.TrodVars enc P W' sp s.vars (s.fn H (ds ++ gs)).vars pv)
    (hps : before = pa ++ pv) (hk : Below W.heap.size W W') :
    s.post enc P f apart fresh handsOn false W args v W' := by
  have hold : ∀ p ∈ before, (fun b => decide (b < W.heap.size)) p.block = true := fun p hp => by simpa using hW.lt p hp
  refine ⟨ds, gs, before, [], pa, pv, hW, hres _ _ _, hargs _ hold, hvars _ hold, World.keptBut_mono (fun p hp => ⟨hp, ?_⟩) (hk.frame (· ∈ before)), fun h => by cases h⟩
  rw [hps, List.mem_append] at hp
  exact Or.inr hp
end Go.Proofs.YtlgghomjlhnijaaGreat

/- What the rows over slices of structs need besides: the last step, and cells of elements. -/
namespace Go.Proofs.YtlgghomjlhnijaaGreat
open Go.ChangeShapes Go.WideShapes Go.ChangeAt Go.RowKit Go.WideMaps Go.WideElems

theorem own : ownKnob Tryz.prog.godebug = none := by kernel_rfl
theorem laidOut : laidOutB Tryz.prog = true := by kernel_rfl

/-- 'post_law', the arguments read again under the one mode that is asked. -/
theorem post_law' {H : Type} {enc : TypeId × Value → H} {P : Program} {f : Func} {s : ChangeSpec} {apart fresh handsOn : Bool} {W W' : World} {args : Array Value} {v : Value} {ds gs : List (DataW H)} {before pa pv : List MemPlace}
    (hW : DataW.Whole enc P f.params.toList s.vars apart W args.toList ds gs before)
    (hres : ∀ (b : Nat) (sp : Nat → Bool) (hd : Bool), DataW.TrodAll enc P W' b sp hd f.resultTypes.toList (v.resultList f.resultTypes.size) (s.fn H (ds ++ gs)).results [])
    (hargs : DataW.TrodAll enc P W' 0 (fun b => decide (b < W.heap.size)) true f.params.toList args.toList (s.fn H (ds ++ gs)).args pa)
    (hvars : ∀ sp : Nat → Bool, (∀ p ∈ before, sp p.block = true) → DataW.TrodVars enc P W' sp s.vars (s.fn H (ds ++ gs)).vars pv)
    (hps : before = pa ++ pv) (hk : Below W.heap.size W W') :
    s.post enc P f apart fresh handsOn false W args v W' := by
  have hold : ∀ p ∈ before, (fun b => decide (b < W.heap.size)) p.block = true := fun p hp => by simpa using hW.lt p hp
  refine ⟨ds, gs, before, [], pa, pv, hW, hres _ _ _, hargs, hvars _ hold, World.keptBut_mono (fun p hp => ⟨hp, ?_⟩) (hk.frame (· ∈ before)), fun h => by cases h⟩
  rw [hps, List.mem_append] at hp
  exact Or.inr hp

theorem u64_wf {n : Int} (h : (Lit.int .u64 n).wf = true) : ∃ k : Nat, n = k ∧ k < 18446744073709551616 := by
  simp [Lit.wf, IntKind.min, IntKind.max, IntKind.signed, IntKind.bits] at h
  exact ⟨n.toNat, by omega, by omega⟩
theorem i64_wf {n : Int} (h : (Lit.int .i64 n).wf = true) : -9223372036854775808 ≤ n ∧ n ≤ 9223372036854775807 := by
  simp [Lit.wf, IntKind.min, IntKind.max, IntKind.signed, IntKind.bits] at h
  omega

theorem u32_wf {n : Int} (h : (Lit.int .u32 n).wf = true) : ∃ k : Nat, n = k ∧ k < 4294967296 := by
  simp [Lit.wf, IntKind.min, IntKind.max, IntKind.signed, IntKind.bits] at h
  exact ⟨n.toNat, by omega, by omega⟩

/-- The cells of element i of a slice at a plain address. -/
theorem elem_cells {w : World} {b off k i : Nat} {cs : List Value} (h : w.cells? 0 ((⟨b, off, none⟩ : Addr).add (i * k)) k = some cs) (j : Nat) (hj : j < k) : w.cell? ⟨b, off + i * k + j, none⟩ = cs[j]? := by
  have hc := (World.cells?_some h).2.2 j hj
  rw [Go.Deep.add_add, add_plain] at hc
  rw [show off + i * k + j = off + (i * k + j) by omega]
  exact hc

end Go.Proofs.YtlgghomjlhnijaaGreat

/- Acts that came in, opened. -/
namespace Go.Proofs.YtlgghomjlhnijaaGreat.Bp
end Go.Proofs.YtlgghomjlhnijaaGreat.Bp
namespace Go.Proofs.YtlgghomjlhnijaaGreat.Mm
open Go.Proofs.YtlgghomjlhnijaaGreat.Bp
open Go.ChangeShapes Go.WideShapes Go.ChangeAt Go.RowKit Go.WideMaps Go.WideElems
open Go.ChangeMaps (open_string shut_string)

theorem act_fields : ∃ f0 f1 f2 f3 f4 f5 : Field, Tryz.prog.underlying 42 = some (.struct #[f0, f1, f2, f3, f4, f5]) ∧ (f0.type = 9 ∧ f1.type = 3 ∧ f2.type = 36 ∧ f3.type = 9 ∧ f4.type = 4 ∧ f5.type = 40) ∧ (f0.offset = 0 ∧ f1.offset = 1 ∧ f2.offset = 2 ∧ f3.offset = 3 ∧ f4.offset = 4 ∧ f5.offset = 5) :=
  ⟨_, _, _, _, _, _, Tryz.underlying42, ⟨by kernel_rfl, by kernel_rfl, by kernel_rfl, by kernel_rfl, by kernel_rfl, by kernel_rfl⟩, by kernel_rfl, by kernel_rfl, by kernel_rfl, by kernel_rfl, by kernel_rfl, by kernel_rfl⟩
theorem cells_act : Tryz.prog.cellsOf 42 = 11 := by kernel_rfl
theorem cells_str : Tryz.prog.cellsOf 9 = 1 := by kernel_rfl
theorem cells_int : Tryz.prog.cellsOf 3 = 1 := by kernel_rfl
theorem cells_u64 : Tryz.prog.cellsOf 36 = 1 := by kernel_rfl
theorem cells_bool : Tryz.prog.cellsOf 4 = 1 := by kernel_rfl

theorem list11 {α : Type} {l : List α} (h : l.length = 11) : ∃ a0 a1 a2 a3 a4 a5 a6 a7 a8 a9 a10, l = [a0, a1, a2, a3, a4, a5, a6, a7, a8, a9, a10] := by
  match l, h with
  | [a0, a1, a2, a3, a4, a5, a6, a7, a8, a9, a10], _ => exact ⟨a0, a1, a2, a3, a4, a5, a6, a7, a8, a9, a10, rfl⟩

theorem cells_callA : Tryz.prog.cellsOf 40 = 6 := by kernel_rfl
theorem cells_u32A : Tryz.prog.cellsOf 37 = 1 := by kernel_rfl
theorem cells_arrA : Tryz.prog.cellsOf 38 = 4 := by kernel_rfl
theorem call_fieldsA : ∃ f0 f1 f2 : Field, Tryz.prog.underlying 40 = some (.struct #[f0, f1, f2]) ∧ (f0.type = 37 ∧ f1.type = 37 ∧ f2.type = 38) ∧ (f0.offset = 0 ∧ f1.offset = 1 ∧ f2.offset = 2) :=
  ⟨_, _, _, Tryz.underlying40, ⟨by kernel_rfl, by kernel_rfl, by kernel_rfl⟩, by kernel_rfl, by kernel_rfl, by kernel_rfl⟩
theorem list6 {α : Type} {l : List α} (h : l.length = 6) : ∃ a0 a1 a2 a3 a4 a5, l = [a0, a1, a2, a3, a4, a5] := by
  match l, h with
  | [a0, a1, a2, a3, a4, a5], _ => exact ⟨a0, a1, a2, a3, a4, a5, rfl⟩
set_option maxRecDepth 100000 in
/-- A call that is read, its cells. -/
theorem call_read {H : Type} {enc : TypeId × Value → H} {w : World} {base : Nat} {spare : Nat → Bool} {held : Bool} {n : Nat} {cs : List Value} {x : DataW H × List MemPlace} (h : DataW.trod enc Tryz.prog w base spare held n 40 cs = some x) :
    ∃ z0 z1 z2 z3 z4 z5 : Int, cs = [.int .u32 z0, .int .u32 z1, .int .u64 z2, .int .u64 z3, .int .u64 z4, .int .u64 z5] ∧ (0 ≤ z0 ∧ z0 < 4294967296) ∧ (0 ≤ z1 ∧ z1 < 4294967296) ∧ (0 ≤ z2 ∧ z2 < 18446744073709551616) ∧ (0 ≤ z3 ∧ z3 < 18446744073709551616) ∧ (0 ≤ z4 ∧ z4 < 18446744073709551616) ∧ (0 ≤ z5 ∧ z5 < 18446744073709551616) := by
  obtain ⟨f0, f1, f2, hu, ⟨t0, t1, t2⟩, o0, o1, o2⟩ := call_fieldsA
  obtain ⟨xs, m, _, _, hl, hlen, hf⟩ := DataW.trod_struct hu h
  rw [cells_callA] at hl
  obtain ⟨a0, a1, a2, a3, a4, a5, rfl⟩ := list6 hl
  have g0 := hf 0 f0 rfl
  have g1 := hf 1 f1 rfl
  have g2 := hf 2 f2 rfl
  have hlt : xs.length = 3 := hlen
  rw [t0, o0, cells_u32A, List.getElem?_eq_getElem (by omega)] at g0
  rw [t1, o1, cells_u32A, List.getElem?_eq_getElem (by omega)] at g1
  rw [t2, o2, cells_arrA, List.getElem?_eq_getElem (by omega)] at g2
  obtain ⟨s0, q0, _, w0⟩ := DataW.trod_int Tryz.underlying37 g0
  obtain ⟨s1, q1, _, w1⟩ := DataW.trod_int Tryz.underlying37 g1
  obtain ⟨ys, m', _, _, _, hyl, hy⟩ := DataW.trod_array Tryz.underlying38 g2
  have y0 := hy 0 (by omega)
  have y1 := hy 1 (by omega)
  have y2 := hy 2 (by omega)
  have y3 := hy 3 (by omega)
  rw [cells_u64, List.getElem?_eq_getElem (by omega)] at y0 y1 y2 y3
  obtain ⟨s2, q2, _, w2⟩ := DataW.trod_int Tryz.underlying36 y0
  obtain ⟨s3, q3, _, w3⟩ := DataW.trod_int Tryz.underlying36 y1
  obtain ⟨s4, q4, _, w4⟩ := DataW.trod_int Tryz.underlying36 y2
  obtain ⟨s5, q5, _, w5⟩ := DataW.trod_int Tryz.underlying36 y3
  simp at q0 q1 q2 q3 q4 q5
  obtain ⟨k0, rfl, b0⟩ := u32_wf w0
  obtain ⟨k1, rfl, b1⟩ := u32_wf w1
  obtain ⟨k2, rfl, b2⟩ := u64_wf w2
  obtain ⟨k3, rfl, b3⟩ := u64_wf w3
  obtain ⟨k4, rfl, b4⟩ := u64_wf w4
  obtain ⟨k5, rfl, b5⟩ := u64_wf w5
  subst q0 q1 q2 q3 q4 q5
  exact ⟨_, _, _, _, _, _, rfl, by omega, by omega, by omega, by omega, by omega, by omega⟩

/-- An act that is read, its cells. -/
theorem act_read {H : Type} {enc : TypeId × Value → H} {w : World} {base : Nat} {spare : Nat → Bool} {held : Bool} {n : Nat} {cs : List Value} {x : DataW H × List MemPlace} (h : DataW.trod enc Tryz.prog w base spare held n 42 cs = some x) :
    ∃ y : AC, cs = [.string y.kind, .int .i64 y.n, .int .u64 y.a, .string y.s, .bool y.wr, .int .u32 y.c0, .int .u32 y.c1, .int .u64 y.c2, .int .u64 y.c3, .int .u64 y.c4, .int .u64 y.c5] ∧ y.kind.size ≤ maxLen ∧ y.s.size ≤ maxLen ∧ y.a < 18446744073709551616 ∧ y.callOk ∧ -9223372036854775808 ≤ y.n ∧ y.n ≤ 9223372036854775807 := by
  obtain ⟨f0, f1, f2, f3, f4, f5, hu, ⟨t0, t1, t2, t3, t4, t5⟩, o0, o1, o2, o3, o4, o5⟩ := act_fields
  obtain ⟨xs, m, _, _, hl, hlen, hf⟩ := DataW.trod_struct hu h
  rw [cells_act] at hl
  obtain ⟨a0, a1, a2, a3, a4, a5, a6, a7, a8, a9, a10, rfl⟩ := list11 hl
  have g0 := hf 0 f0 rfl
  have g1 := hf 1 f1 rfl
  have g2 := hf 2 f2 rfl
  have g3 := hf 3 f3 rfl
  have g4 := hf 4 f4 rfl
  have g5 := hf 5 f5 rfl
  have hlt : xs.length = 6 := hlen
  rw [t0, o0, cells_str, List.getElem?_eq_getElem (by omega)] at g0
  rw [t1, o1, cells_int, List.getElem?_eq_getElem (by omega)] at g1
  rw [t2, o2, cells_u64, List.getElem?_eq_getElem (by omega)] at g2
  rw [t3, o3, cells_str, List.getElem?_eq_getElem (by omega)] at g3
  rw [t4, o4, cells_bool, List.getElem?_eq_getElem (by omega)] at g4
  rw [t5, o5, cells_callA, List.getElem?_eq_getElem (by omega)] at g5
  obtain ⟨z0, z1, z2, z3, z4, z5, q5, hz⟩ := call_read g5
  obtain ⟨s0, q0, _, w0⟩ := DataW.trod_string Tryz.underlying9 g0
  obtain ⟨s1, q1, _, w1⟩ := DataW.trod_int Tryz.underlying3 g1
  obtain ⟨s2, q2, _, w2⟩ := DataW.trod_int Tryz.underlying36 g2
  obtain ⟨s3, q3, _, w3⟩ := DataW.trod_string Tryz.underlying9 g3
  obtain ⟨s4, q4, _⟩ := DataW.trod_bool Tryz.underlying4 g4
  simp at q0 q1 q2 q3 q4 q5
  obtain ⟨rfl, rfl, rfl, rfl, rfl, rfl⟩ := q5
  obtain ⟨k2, rfl, hk2⟩ := u64_wf w2
  subst q0 q1 q2 q3 q4
  exact ⟨⟨s0, s1, k2, s3, s4, z0, z1, z2, z3, z4, z5⟩, rfl, w0, w3, hk2, hz, i64_wf w1⟩

set_option maxRecDepth 100000 in
/-- A slice of acts that came in, opened. -/
theorem open_acts {H : Type} {enc : TypeId × Value → H} {W : World} {v : Value} {d : DataW H} {p : List MemPlace} {r : Reach} {b0 : Nat} (hv : Value.okWide Tryz.prog W r b0 27 v) (h : DataW.Trod enc Tryz.prog W 0 (fun _ => true) true 27 v d p) :
    ∃ (oa : Option Addr) (n cap : Nat) (L : Nat → AC), v = .slice oa n cap ∧ n ≤ maxLen ∧ IsActs oa n L W := by
  obtain ⟨oa, n, cap, rfl⟩ := okWide_slice Tryz.underlying27 hv
  obtain ⟨fuel, hf⟩ := h
  rcases Go.Deep.open_slice Tryz.underlying27 hf with ⟨hcs, _⟩ | ⟨a, len, cap', m, fu, D, Pl, hcs, _, hl, hm, hmm, _, hx⟩
  · simp only [Value.cells, List.cons.injEq, Value.slice.injEq, and_true] at hcs
    obtain ⟨rfl, rfl, rfl⟩ := hcs
    exact ⟨none, 0, 0, fun _ => ⟨⟨#[]⟩, 0, 0, ⟨#[]⟩, false, 0, 0, 0, 0, 0, 0⟩, rfl, Nat.zero_le _, ⟨fun h0 => absurd h0 (Nat.lt_irrefl 0)⟩⟩
  · simp only [Value.cells, List.cons.injEq, Value.slice.injEq, and_true] at hcs
    obtain ⟨rfl, rfl, rfl⟩ := hcs
    rw [if_pos rfl] at hmm
    subst hmm
    rw [cells_act] at hx
    have hy : ∀ i, i < n → ∃ y : AC, ∃ cs', W.cells? 0 (a.add (i * 11)) 11 = some cs' ∧ cs' = [.string y.kind, .int .i64 y.n, .int .u64 y.a, .string y.s, .bool y.wr, .int .u32 y.c0, .int .u32 y.c1, .int .u64 y.c2, .int .u64 y.c3, .int .u64 y.c4, .int .u64 y.c5] ∧ y.kind.size ≤ maxLen ∧ y.s.size ≤ maxLen ∧ y.a < 18446744073709551616 ∧ y.callOk ∧ -9223372036854775808 ≤ y.n ∧ y.n ≤ 9223372036854775807 := fun i hi => by
      obtain ⟨cs', h1, h2⟩ := hx i (by omega)
      obtain ⟨y, h3, h4⟩ := act_read h2
      exact ⟨y, cs', h1, h3, h4⟩
    haveI : Inhabited AC := ⟨⟨⟨#[]⟩, 0, 0, ⟨#[]⟩, false, 0, 0, 0, 0, 0, 0⟩⟩
    obtain ⟨L, hL⟩ := Go.Deep.choose_lt hy
    refine ⟨some a, n, m, L, rfl, Nat.le_trans hl hm, ⟨fun h0 => ?_⟩⟩
    obtain ⟨b, off, spot⟩ := a
    obtain ⟨cs0, k1, k2, _⟩ := hL 0 h0
    have hc0 := (World.cells?_some k1).2.2 0 (by omega)
    rw [k2] at hc0
    have hspot : spot = none := by simpa [Addr.add] using World.cell?_spot hc0
    subst hspot
    refine ⟨b, off, rfl, World.cells?_block (by rw [Nat.zero_mul] at k1; simpa [Addr.add] using k1) (by omega : 0 < 11), fun i hi => ?_⟩
    obtain ⟨cs', k1, rfl, k3, k4, k5, kc, k6, k7⟩ := hL i hi
    exact ⟨elem_cells k1 0 (by omega), elem_cells k1 1 (by omega), elem_cells k1 2 (by omega), elem_cells k1 3 (by omega), elem_cells k1 4 (by omega), elem_cells k1 5 (by omega), elem_cells k1 6 (by omega), elem_cells k1 7 (by omega), elem_cells k1 8 (by omega), elem_cells k1 9 (by omega), elem_cells k1 10 (by omega), k3, k4, k5, k6, k7, kc⟩
end Go.Proofs.YtlgghomjlhnijaaGreat.Mm

/- Policies, calls and values that came in, opened. -/
namespace Go.Proofs.YtlgghomjlhnijaaGreat
open Go.ChangeShapes Go.WideShapes Go.ChangeAt Go.RowKit Go.WideMaps Go.WideElems

theorem cond_fields : ∃ f0 f1 f2 f3 f4 f5 : Field, Tryz.prog.underlying 71 = some (.struct #[f0, f1, f2, f3, f4, f5]) ∧ (f0.type = 3 ∧ f1.type = 3 ∧ f2.type = 36 ∧ f3.type = 36 ∧ f4.type = 9 ∧ f5.type = 69) ∧ (f0.offset = 0 ∧ f1.offset = 1 ∧ f2.offset = 2 ∧ f3.offset = 3 ∧ f4.offset = 4 ∧ f5.offset = 5) :=
  ⟨_, _, _, _, _, _, Tryz.underlying71, ⟨by kernel_rfl, by kernel_rfl, by kernel_rfl, by kernel_rfl, by kernel_rfl, by kernel_rfl⟩, by kernel_rfl, by kernel_rfl, by kernel_rfl, by kernel_rfl, by kernel_rfl, by kernel_rfl⟩
theorem net_fields : ∃ f0 f1 f2 f3 : Field, Tryz.prog.underlying 69 = some (.struct #[f0, f1, f2, f3]) ∧ (f0.type = 37 ∧ f1.type = 3 ∧ f2.type = 3 ∧ f3.type = 3) ∧ (f0.offset = 0 ∧ f1.offset = 1 ∧ f2.offset = 2 ∧ f3.offset = 3) :=
  ⟨_, _, _, _, Tryz.underlying69, ⟨by kernel_rfl, by kernel_rfl, by kernel_rfl, by kernel_rfl⟩, by kernel_rfl, by kernel_rfl, by kernel_rfl, by kernel_rfl⟩
theorem rule_fields : ∃ f0 f1 f2 : Field, Tryz.prog.underlying 67 = some (.struct #[f0, f1, f2]) ∧ (f0.type = 3 ∧ f1.type = 65 ∧ f2.type = 24) ∧ (f0.offset = 0 ∧ f1.offset = 1 ∧ f2.offset = 2) :=
  ⟨_, _, _, Tryz.underlying67, ⟨by kernel_rfl, by kernel_rfl, by kernel_rfl⟩, by kernel_rfl, by kernel_rfl, by kernel_rfl⟩
theorem action_fields : ∃ f0 f1 : Field, Tryz.prog.underlying 24 = some (.struct #[f0, f1]) ∧ (f0.type = 3 ∧ f1.type = 3) ∧ (f0.offset = 0 ∧ f1.offset = 1) :=
  ⟨_, _, Tryz.underlying24, ⟨by kernel_rfl, by kernel_rfl⟩, by kernel_rfl, by kernel_rfl⟩
theorem pol_fields : ∃ f0 f1 : Field, Tryz.prog.underlying 26 = some (.struct #[f0, f1]) ∧ (f0.type = 22 ∧ f1.type = 24) ∧ (f0.offset = 0 ∧ f1.offset = 1) :=
  ⟨_, _, Tryz.underlying26, ⟨by kernel_rfl, by kernel_rfl⟩, by kernel_rfl, by kernel_rfl⟩
theorem call_fields : ∃ f0 f1 f2 : Field, Tryz.prog.underlying 40 = some (.struct #[f0, f1, f2]) ∧ (f0.type = 37 ∧ f1.type = 37 ∧ f2.type = 38) ∧ (f0.offset = 0 ∧ f1.offset = 1 ∧ f2.offset = 2) :=
  ⟨_, _, _, Tryz.underlying40, ⟨by kernel_rfl, by kernel_rfl, by kernel_rfl⟩, by kernel_rfl, by kernel_rfl, by kernel_rfl⟩
theorem value_fields : ∃ f0 f1 f2 : Field, Tryz.prog.underlying 50 = some (.struct #[f0, f1, f2]) ∧ (f0.type = 9 ∧ f1.type = 37 ∧ f2.type = 3) ∧ (f0.offset = 0 ∧ f1.offset = 1 ∧ f2.offset = 2) :=
  ⟨_, _, _, Tryz.underlying50, ⟨by kernel_rfl, by kernel_rfl, by kernel_rfl⟩, by kernel_rfl, by kernel_rfl, by kernel_rfl⟩
theorem cells_cond : Tryz.prog.cellsOf 71 = 9 := by kernel_rfl
theorem cells_net : Tryz.prog.cellsOf 69 = 4 := by kernel_rfl
theorem cells_rule : Tryz.prog.cellsOf 67 = 4 := by kernel_rfl
theorem cells_action : Tryz.prog.cellsOf 24 = 2 := by kernel_rfl
theorem cells_pol : Tryz.prog.cellsOf 26 = 3 := by kernel_rfl
theorem cells_conds : Tryz.prog.cellsOf 65 = 1 := by kernel_rfl
theorem cells_rules : Tryz.prog.cellsOf 22 = 1 := by kernel_rfl
theorem cells_call : Tryz.prog.cellsOf 40 = 6 := by kernel_rfl
theorem cells_value : Tryz.prog.cellsOf 50 = 3 := by kernel_rfl
theorem cells_vals : Tryz.prog.cellsOf 52 = 12 := by kernel_rfl
theorem cells_i : Tryz.prog.cellsOf 3 = 1 := by kernel_rfl
theorem cells_s : Tryz.prog.cellsOf 9 = 1 := by kernel_rfl
theorem cells_32 : Tryz.prog.cellsOf 37 = 1 := by kernel_rfl
theorem cells_64 : Tryz.prog.cellsOf 36 = 1 := by kernel_rfl
theorem cells_arr4 : Tryz.prog.cellsOf 38 = 4 := by kernel_rfl

theorem list2 {α : Type} {l : List α} (h : l.length = 2) : ∃ a0 a1, l = [a0, a1] := by
  match l, h with
  | [a0, a1], _ => exact ⟨a0, a1, rfl⟩
theorem list3 {α : Type} {l : List α} (h : l.length = 3) : ∃ a0 a1 a2, l = [a0, a1, a2] := by
  match l, h with
  | [a0, a1, a2], _ => exact ⟨a0, a1, a2, rfl⟩
theorem list4 {α : Type} {l : List α} (h : l.length = 4) : ∃ a0 a1 a2 a3, l = [a0, a1, a2, a3] := by
  match l, h with
  | [a0, a1, a2, a3], _ => exact ⟨a0, a1, a2, a3, rfl⟩
theorem list9 {α : Type} {l : List α} (h : l.length = 9) : ∃ a0 a1 a2 a3 a4 a5 a6 a7 a8, l = [a0, a1, a2, a3, a4, a5, a6, a7, a8] := by
  match l, h with
  | [a0, a1, a2, a3, a4, a5, a6, a7, a8], _ => exact ⟨a0, a1, a2, a3, a4, a5, a6, a7, a8, rfl⟩
theorem array3 {α : Type} {l : Array α} (h : l.size = 3) : ∃ a0 a1 a2, l = #[a0, a1, a2] := by
  obtain ⟨l⟩ := l
  match l, h with
  | [a0, a1, a2], _ => exact ⟨a0, a1, a2, rfl⟩
theorem array6 {α : Type} {l : Array α} (h : l.size = 6) : ∃ a0 a1 a2 a3 a4 a5, l = #[a0, a1, a2, a3, a4, a5] := by
  obtain ⟨l⟩ := l
  match l, h with
  | [a0, a1, a2, a3, a4, a5], _ => exact ⟨a0, a1, a2, a3, a4, a5, rfl⟩
theorem array12 {α : Type} {l : Array α} (h : l.size = 12) : ∃ a0 a1 a2 a3 a4 a5 a6 a7 a8 a9 a10 a11, l = #[a0, a1, a2, a3, a4, a5, a6, a7, a8, a9, a10, a11] := by
  obtain ⟨l⟩ := l
  match l, h with
  | [a0, a1, a2, a3, a4, a5, a6, a7, a8, a9, a10, a11], _ => exact ⟨a0, a1, a2, a3, a4, a5, a6, a7, a8, a9, a10, a11, rfl⟩
/-- Elements, one by one, as a list. -/
theorem list_of {α : Type} {n : Nat} {p : Nat → α → Prop} (h : ∀ i, i < n → ∃ x, p i x) : ∃ l : List α, l.length = n ∧ ∀ i x, l[i]? = some x → p i x := by
  induction n with
  | zero => exact ⟨[], rfl, fun i x hx => by simp at hx⟩
  | succ n ih =>
    obtain ⟨l, hl, hp⟩ := ih fun i hi => h i (by omega)
    obtain ⟨y, hy⟩ := h n (by omega)
    refine ⟨l ++ [y], by simp [hl], fun i x hx => ?_⟩
    by_cases hi : i < n
    · rw [List.getElem?_append_left (by omega)] at hx
      exact hp i x hx
    · rw [List.getElem?_append_right (by omega)] at hx
      have hlt := (List.getElem?_eq_some_iff.1 hx).1
      simp only [List.length_singleton] at hlt
      obtain rfl : i = n := by omega
      rw [hl, Nat.sub_self] at hx
      obtain rfl := Option.some.inj hx
      exact hy

variable {H : Type} {enc : TypeId × Value → H} {w : World} {base : Nat} {spare : Nat → Bool} {held : Bool} {n : Nat} {cs : List Value} {x : DataW H × List MemPlace}
theorem i64_ok {n : Int} (h : (Lit.int .i64 n).wf = true) : I64 n := i64_wf h
theorem action_read (h : DataW.trod enc Tryz.prog w base spare held n 24 cs = some x) : ∃ a : ACT, cs = [.int .i64 a.kind, .int .i64 a.errno] ∧ AcOk a := by
  obtain ⟨f0, f1, hu, ⟨t0, t1⟩, o0, o1⟩ := action_fields
  obtain ⟨xs, m, _, _, hl, hlen, hf⟩ := DataW.trod_struct hu h
  rw [cells_action] at hl
  obtain ⟨a0, a1, rfl⟩ := list2 hl
  have g0 := hf 0 f0 rfl
  have g1 := hf 1 f1 rfl
  have hlt : xs.length = 2 := hlen
  rw [t0, o0, cells_i, List.getElem?_eq_getElem (by omega)] at g0
  rw [t1, o1, cells_i, List.getElem?_eq_getElem (by omega)] at g1
  obtain ⟨s0, q0, _, w0⟩ := DataW.trod_int Tryz.underlying3 g0
  obtain ⟨s1, q1, _, w1⟩ := DataW.trod_int Tryz.underlying3 g1
  simp at q0 q1
  subst q0 q1
  exact ⟨⟨s0, s1⟩, rfl, ⟨i64_ok w0, i64_ok w1⟩⟩
theorem net_read (h : DataW.trod enc Tryz.prog w base spare held n 69 cs = some x) : ∃ a : NT, cs = [.int .u32 a.ip, .int .i64 a.bits, .int .i64 a.lo, .int .i64 a.hi] ∧ NtOk a := by
  obtain ⟨f0, f1, f2, f3, hu, ⟨t0, t1, t2, t3⟩, o0, o1, o2, o3⟩ := net_fields
  obtain ⟨xs, m, _, _, hl, hlen, hf⟩ := DataW.trod_struct hu h
  rw [cells_net] at hl
  obtain ⟨a0, a1, a2, a3, rfl⟩ := list4 hl
  have g0 := hf 0 f0 rfl
  have g1 := hf 1 f1 rfl
  have g2 := hf 2 f2 rfl
  have g3 := hf 3 f3 rfl
  have hlt : xs.length = 4 := hlen
  rw [t0, o0, cells_32, List.getElem?_eq_getElem (by omega)] at g0
  rw [t1, o1, cells_i, List.getElem?_eq_getElem (by omega)] at g1
  rw [t2, o2, cells_i, List.getElem?_eq_getElem (by omega)] at g2
  rw [t3, o3, cells_i, List.getElem?_eq_getElem (by omega)] at g3
  obtain ⟨s0, q0, _, w0⟩ := DataW.trod_int Tryz.underlying37 g0
  obtain ⟨s1, q1, _, w1⟩ := DataW.trod_int Tryz.underlying3 g1
  obtain ⟨s2, q2, _, w2⟩ := DataW.trod_int Tryz.underlying3 g2
  obtain ⟨s3, q3, _, w3⟩ := DataW.trod_int Tryz.underlying3 g3
  simp at q0 q1 q2 q3
  obtain ⟨k0, rfl, h0⟩ := u32_wf w0
  subst q0 q1 q2 q3
  exact ⟨⟨k0, s1, s2, s3⟩, rfl, ⟨h0, i64_ok w1, i64_ok w2, i64_ok w3⟩⟩
theorem cond_read (h : DataW.trod enc Tryz.prog w base spare held n 71 cs = some x) :
    ∃ c : CD, cs = [.int .i64 c.arg, .int .i64 c.op, .int .u64 c.v, .int .u64 c.m, .string c.glob, .int .u32 c.net.ip, .int .i64 c.net.bits, .int .i64 c.net.lo, .int .i64 c.net.hi] ∧ CdOk c := by
  obtain ⟨f0, f1, f2, f3, f4, f5, hu, ⟨t0, t1, t2, t3, t4, t5⟩, o0, o1, o2, o3, o4, o5⟩ := cond_fields
  obtain ⟨xs, m, _, _, hl, hlen, hf⟩ := DataW.trod_struct hu h
  rw [cells_cond] at hl
  obtain ⟨a0, a1, a2, a3, a4, a5, a6, a7, a8, rfl⟩ := list9 hl
  have g0 := hf 0 f0 rfl
  have g1 := hf 1 f1 rfl
  have g2 := hf 2 f2 rfl
  have g3 := hf 3 f3 rfl
  have g4 := hf 4 f4 rfl
  have g5 := hf 5 f5 rfl
  have hlt : xs.length = 6 := hlen
  rw [t0, o0, cells_i, List.getElem?_eq_getElem (by omega)] at g0
  rw [t1, o1, cells_i, List.getElem?_eq_getElem (by omega)] at g1
  rw [t2, o2, cells_64, List.getElem?_eq_getElem (by omega)] at g2
  rw [t3, o3, cells_64, List.getElem?_eq_getElem (by omega)] at g3
  rw [t4, o4, cells_s, List.getElem?_eq_getElem (by omega)] at g4
  rw [t5, o5, cells_net, List.getElem?_eq_getElem (by omega)] at g5
  obtain ⟨nt, q5, hnt⟩ := net_read g5
  obtain ⟨s0, q0, _, w0⟩ := DataW.trod_int Tryz.underlying3 g0
  obtain ⟨s1, q1, _, w1⟩ := DataW.trod_int Tryz.underlying3 g1
  obtain ⟨s2, q2, _, w2⟩ := DataW.trod_int Tryz.underlying36 g2
  obtain ⟨s3, q3, _, w3⟩ := DataW.trod_int Tryz.underlying36 g3
  obtain ⟨s4, q4, _, _⟩ := DataW.trod_string Tryz.underlying9 g4
  simp at q0 q1 q2 q3 q4 q5
  obtain ⟨k2, rfl, h2⟩ := u64_wf w2
  obtain ⟨k3, rfl, h3⟩ := u64_wf w3
  obtain ⟨q5, q6, q7, q8⟩ := q5
  subst q0 q1 q2 q3 q4 q5 q6 q7 q8
  exact ⟨⟨s0, s1, k2, k3, s4, nt⟩, rfl, ⟨i64_ok w0, i64_ok w1, h2, h3, hnt⟩⟩

set_option maxRecDepth 100000 in
theorem conds_read {W : World} (h : DataW.trod enc Tryz.prog W 0 (fun _ => true) true n 65 cs = some x) :
    ∃ (oa : Option Addr) (l : List CD) (cap : Nat), cs = [.slice oa l.length cap] ∧ l.length ≤ cap ∧ cap ≤ maxLen ∧ IsConds oa l W ∧ ∀ c ∈ l, CdOk c := by
  rcases Go.Deep.open_slice Tryz.underlying65 h with ⟨rfl, _⟩ | ⟨a, len, cap, m, fu, D, Pl, rfl, _, hl, hm, hmm, _, hx⟩
  · exact ⟨none, [], 0, rfl, Nat.le_refl _, Nat.zero_le _, IsConds.nil _ _, fun c hc => by simp at hc⟩
  · rw [if_pos rfl] at hmm
    subst hmm
    rw [cells_cond] at hx
    obtain ⟨l, hll, hp⟩ := list_of (n := len) (p := fun i (c : CD) => ∃ cs', W.cells? 0 (a.add (i * 9)) 9 = some cs' ∧ cs' = [.int .i64 c.arg, .int .i64 c.op, .int .u64 c.v, .int .u64 c.m, .string c.glob, .int .u32 c.net.ip, .int .i64 c.net.bits, .int .i64 c.net.lo, .int .i64 c.net.hi] ∧ CdOk c) fun i hi => by
      obtain ⟨cs', h1, h2⟩ := hx i (by omega)
      obtain ⟨c, h3, h4⟩ := cond_read h2
      exact ⟨c, cs', h1, h3, h4⟩
    subst hll
    refine ⟨some a, l, m, rfl, hl, hm, ⟨fun h0 => ?_⟩, fun c hc => ?_⟩
    · obtain ⟨b, off, spot⟩ := a
      obtain ⟨cs0, k1, k2, _⟩ := hp 0 l[0] (List.getElem?_eq_getElem h0)
      have hc0 := (World.cells?_some k1).2.2 0 (by omega)
      rw [k2] at hc0
      have hspot : spot = none := by simpa [Addr.add] using World.cell?_spot hc0
      subst hspot
      refine ⟨b, off, rfl, World.cells?_block (by rw [Nat.zero_mul] at k1; simpa [Addr.add] using k1) (by omega : 0 < 9), fun i c hi => ?_⟩
      obtain ⟨cs', k1, rfl, k3⟩ := hp i c hi
      exact ⟨elem_cells k1 0 (by omega), elem_cells k1 1 (by omega), elem_cells k1 2 (by omega), elem_cells k1 3 (by omega), elem_cells k1 4 (by omega), elem_cells k1 5 (by omega), elem_cells k1 6 (by omega), elem_cells k1 7 (by omega), elem_cells k1 8 (by omega), k3⟩
    · obtain ⟨i, hi, rfl⟩ := List.mem_iff_getElem.1 hc
      obtain ⟨_, _, _, k3⟩ := hp i _ (List.getElem?_eq_getElem hi)
      exact k3
theorem rule_read {W : World} (h : DataW.trod enc Tryz.prog W 0 (fun _ => true) true n 67 cs = some x) :
    ∃ (r : RL) (oa : Option Addr) (cap : Nat), cs = [.int .i64 r.nr, .slice oa r.conds.length cap, .int .i64 r.act.kind, .int .i64 r.act.errno] ∧ r.conds.length ≤ cap ∧ cap ≤ maxLen ∧ IsConds oa r.conds W ∧ RlOk r := by
  obtain ⟨f0, f1, f2, hu, ⟨t0, t1, t2⟩, o0, o1, o2⟩ := rule_fields
  obtain ⟨xs, m, _, _, hl, hlen, hf⟩ := DataW.trod_struct hu h
  rw [cells_rule] at hl
  obtain ⟨a0, a1, a2, a3, rfl⟩ := list4 hl
  have g0 := hf 0 f0 rfl
  have g1 := hf 1 f1 rfl
  have g2 := hf 2 f2 rfl
  have hlt : xs.length = 3 := hlen
  rw [t0, o0, cells_i, List.getElem?_eq_getElem (by omega)] at g0
  rw [t1, o1, cells_conds, List.getElem?_eq_getElem (by omega)] at g1
  rw [t2, o2, cells_action, List.getElem?_eq_getElem (by omega)] at g2
  obtain ⟨s0, q0, _, w0⟩ := DataW.trod_int Tryz.underlying3 g0
  obtain ⟨oa, l, cap, q1, hlc, hcm, hic, hok⟩ := conds_read g1
  obtain ⟨ac, q2, hac⟩ := action_read g2
  simp at q0 q1 q2
  obtain ⟨q2, q3⟩ := q2
  subst q0 q1 q2 q3
  exact ⟨⟨s0, l, ac⟩, oa, cap, rfl, hlc, hcm, hic, ⟨i64_ok w0, hok, hac⟩⟩

set_option maxRecDepth 100000 in
theorem rules_read {W : World} (h : DataW.trod enc Tryz.prog W 0 (fun _ => true) true n 22 cs = some x) :
    ∃ (oa : Option Addr) (l : List RL) (cap : Nat), cs = [.slice oa l.length cap] ∧ l.length ≤ cap ∧ cap ≤ maxLen ∧ IsRules oa l W ∧ ∀ r ∈ l, RlOk r := by
  rcases Go.Deep.open_slice Tryz.underlying22 h with ⟨rfl, _⟩ | ⟨a, len, cap, m, fu, D, Pl, rfl, _, hl, hm, hmm, _, hx⟩
  · exact ⟨none, [], 0, rfl, Nat.le_refl _, Nat.zero_le _, IsRules.nil _ _, fun c hc => by simp at hc⟩
  · rw [if_pos rfl] at hmm
    subst hmm
    rw [cells_rule] at hx
    obtain ⟨l, hll, hp⟩ := list_of (n := len) (p := fun i (r : RL) => ∃ cs', W.cells? 0 (a.add (i * 4)) 4 = some cs' ∧ ∃ (oa : Option Addr) (cap : Nat), cs' = [.int .i64 r.nr, .slice oa r.conds.length cap, .int .i64 r.act.kind, .int .i64 r.act.errno] ∧ r.conds.length ≤ cap ∧ cap ≤ maxLen ∧ IsConds oa r.conds W ∧ RlOk r) fun i hi => by
      obtain ⟨cs', h1, h2⟩ := hx i (by omega)
      obtain ⟨r, oa, cap, h3, h4⟩ := rule_read h2
      exact ⟨r, cs', h1, oa, cap, h3, h4⟩
    subst hll
    refine ⟨some a, l, m, rfl, hl, hm, ⟨fun h0 => ?_⟩, fun c hc => ?_⟩
    · obtain ⟨b, off, spot⟩ := a
      obtain ⟨cs0, k1, _, _, k2, _⟩ := hp 0 l[0] (List.getElem?_eq_getElem h0)
      have hc0 := (World.cells?_some k1).2.2 0 (by omega)
      rw [k2] at hc0
      have hspot : spot = none := by simpa [Addr.add] using World.cell?_spot hc0
      subst hspot
      refine ⟨b, off, rfl, World.cells?_block (by rw [Nat.zero_mul] at k1; simpa [Addr.add] using k1) (by omega : 0 < 4), fun i c hi => ?_⟩
      obtain ⟨cs', k1, oa, cc, rfl, k3, k4, k5, k6⟩ := hp i c hi
      exact ⟨oa, cc, elem_cells k1 0 (by omega), elem_cells k1 1 (by omega), elem_cells k1 2 (by omega), elem_cells k1 3 (by omega), k5, k3, k4, k6⟩
    · obtain ⟨i, hi, rfl⟩ := List.mem_iff_getElem.1 hc
      obtain ⟨_, _, _, _, _, _, _, _, k6⟩ := hp i _ (List.getElem?_eq_getElem hi)
      exact k6

set_option maxRecDepth 100000 in
/-- A policy that came in, opened. -/
theorem open_pol {W : World} {v : Value} {d : DataW H} {p : List MemPlace} {r : Reach} {b0 : Nat} (hv : Value.okWide Tryz.prog W r b0 26 v) (h : DataW.Trod enc Tryz.prog W 0 (fun _ => true) true 26 v d p) :
    ∃ (q : POL) (oa : Option Addr) (cap : Nat), v = polV q oa cap ∧ IsPol oa cap q W := by
  obtain ⟨f0, f1, hu, ⟨t0, t1⟩, o0, o1⟩ := pol_fields
  obtain ⟨cs, rfl, hsz⟩ := okWide_struct hu hv
  obtain ⟨a0, a1, a2, rfl⟩ := array3 (hsz.trans cells_pol)
  obtain ⟨fuel, hf⟩ := h
  obtain ⟨xs, m, _, _, hl, hlen, hf⟩ := DataW.trod_struct hu hf
  have g0 := hf 0 f0 rfl
  have g1 := hf 1 f1 rfl
  have hlt : xs.length = 2 := hlen
  rw [t0, o0, cells_rules, List.getElem?_eq_getElem (by omega)] at g0
  rw [t1, o1, cells_action, List.getElem?_eq_getElem (by omega)] at g1
  obtain ⟨oa, l, cap, q0, hlc, hcm, hir, hok⟩ := rules_read g0
  obtain ⟨ac, q1, hac⟩ := action_read g1
  simp [Value.cells] at q0 q1
  obtain ⟨q1, q2⟩ := q1
  subst q0 q1 q2
  exact ⟨⟨l, ac⟩, oa, cap, rfl, ⟨hir, hlc, hcm, ⟨hok, hac⟩⟩⟩

set_option maxRecDepth 100000 in
/-- A call that came in, opened. -/
theorem open_call {W : World} {v : Value} {d : DataW H} {p : List MemPlace} {r : Reach} {b0 : Nat} (hv : Value.okWide Tryz.prog W r b0 40 v) (h : DataW.Trod enc Tryz.prog W base spare held 40 v d p) :
    ∃ c : KL, v = klV c ∧ KlOk c := by
  obtain ⟨f0, f1, f2, hu, ⟨t0, t1, t2⟩, o0, o1, o2⟩ := call_fields
  obtain ⟨cs, rfl, hsz⟩ := okWide_struct hu hv
  obtain ⟨a0, a1, a2, a3, a4, a5, rfl⟩ := array6 (hsz.trans cells_call)
  obtain ⟨fuel, hf⟩ := h
  obtain ⟨xs, m, _, _, hl, hlen, hf⟩ := DataW.trod_struct hu hf
  have g0 := hf 0 f0 rfl
  have g1 := hf 1 f1 rfl
  have g2 := hf 2 f2 rfl
  have hlt : xs.length = 3 := hlen
  rw [t0, o0, cells_32, List.getElem?_eq_getElem (by omega)] at g0
  rw [t1, o1, cells_32, List.getElem?_eq_getElem (by omega)] at g1
  rw [t2, o2, cells_arr4, List.getElem?_eq_getElem (by omega)] at g2
  obtain ⟨s0, q0, _, w0⟩ := DataW.trod_int Tryz.underlying37 g0
  obtain ⟨s1, q1, _, w1⟩ := DataW.trod_int Tryz.underlying37 g1
  obtain ⟨ys, m', _, _, _, hyl, hy⟩ := DataW.trod_array Tryz.underlying38 g2
  have y0 := hy 0 (by omega)
  have y1 := hy 1 (by omega)
  have y2 := hy 2 (by omega)
  have y3 := hy 3 (by omega)
  rw [cells_64, List.getElem?_eq_getElem (by omega)] at y0 y1 y2 y3
  obtain ⟨s2, q2, _, w2⟩ := DataW.trod_int Tryz.underlying36 y0
  obtain ⟨s3, q3, _, w3⟩ := DataW.trod_int Tryz.underlying36 y1
  obtain ⟨s4, q4, _, w4⟩ := DataW.trod_int Tryz.underlying36 y2
  obtain ⟨s5, q5, _, w5⟩ := DataW.trod_int Tryz.underlying36 y3
  simp [Value.cells] at q0 q1 q2 q3 q4 q5
  obtain ⟨k0, rfl, h0⟩ := u32_wf w0
  obtain ⟨k1, rfl, h1⟩ := u32_wf w1
  obtain ⟨k2, rfl, h2⟩ := u64_wf w2
  obtain ⟨k3, rfl, h3⟩ := u64_wf w3
  obtain ⟨k4, rfl, h4⟩ := u64_wf w4
  obtain ⟨k5, rfl, h5⟩ := u64_wf w5
  subst q0 q1 q2 q3 q4 q5
  exact ⟨⟨k0, k1, k2, k3, k4, k5⟩, rfl, ⟨h0, h1, h2, h3, h4, h5⟩⟩

theorem value_read (h : DataW.trod enc Tryz.prog w base spare held n 50 cs = some x) : ∃ y : VL, cs = [.string y.path, .int .u32 y.ip, .int .i64 y.port] ∧ y.path.size ≤ maxLen ∧ y.ip < 4294967296 ∧ I64 y.port := by
  obtain ⟨f0, f1, f2, hu, ⟨t0, t1, t2⟩, o0, o1, o2⟩ := value_fields
  obtain ⟨xs, m, _, _, hl, hlen, hf⟩ := DataW.trod_struct hu h
  rw [cells_value] at hl
  obtain ⟨a0, a1, a2, rfl⟩ := list3 hl
  have g0 := hf 0 f0 rfl
  have g1 := hf 1 f1 rfl
  have g2 := hf 2 f2 rfl
  have hlt : xs.length = 3 := hlen
  rw [t0, o0, cells_s, List.getElem?_eq_getElem (by omega)] at g0
  rw [t1, o1, cells_32, List.getElem?_eq_getElem (by omega)] at g1
  rw [t2, o2, cells_i, List.getElem?_eq_getElem (by omega)] at g2
  obtain ⟨s0, q0, _, w0⟩ := DataW.trod_string Tryz.underlying9 g0
  obtain ⟨s1, q1, _, w1⟩ := DataW.trod_int Tryz.underlying37 g1
  obtain ⟨s2, q2, _, w2⟩ := DataW.trod_int Tryz.underlying3 g2
  simp at q0 q1 q2
  obtain ⟨k1, rfl, h1⟩ := u32_wf w1
  subst q0 q1 q2
  exact ⟨⟨s0, k1, s2⟩, rfl, w0, h1, i64_ok w2⟩
theorem okWide_arr {P : Program} {w : World} {r : Reach} {base : Nat} {t : TypeId} {v : Value} {n : Nat} {e : TypeId} (ht : P.underlying t = some (.array n e)) (h : Value.okWide P w r base t v) : ∃ cs, v = .agg cs ∧ cs.size = P.cellsOf t := by
  simp only [Value.okWide, ht] at h
  obtain ⟨cs, h1, h2, _⟩ := h
  exact ⟨cs, h1, h2⟩
/-- What is known of values that come in. -/
def VsIn (v : VS) : Prop := ∀ i, i ≤ 3 → (v.at i).path.size ≤ maxLen ∧ (v.at i).ip < 4294967296 ∧ I64 (v.at i).port
set_option maxRecDepth 100000 in
/-- Values that came in, opened. -/
theorem open_vals {W : World} {v : Value} {d : DataW H} {p : List MemPlace} {r : Reach} {b0 : Nat} (hv : Value.okWide Tryz.prog W r b0 52 v) (h : DataW.Trod enc Tryz.prog W base spare held 52 v d p) :
    ∃ c : VS, v = vsV c ∧ VsIn c := by
  obtain ⟨cs, rfl, hsz⟩ := okWide_arr Tryz.underlying52 hv
  obtain ⟨a0, a1, a2, a3, a4, a5, a6, a7, a8, a9, a10, a11, rfl⟩ := array12 (hsz.trans cells_vals)
  obtain ⟨fuel, hf⟩ := h
  obtain ⟨ys, m', _, _, _, hyl, hy⟩ := DataW.trod_array Tryz.underlying52 hf
  have y0 := hy 0 (by omega)
  have y1 := hy 1 (by omega)
  have y2 := hy 2 (by omega)
  have y3 := hy 3 (by omega)
  rw [cells_value, List.getElem?_eq_getElem (by omega)] at y0 y1 y2 y3
  obtain ⟨v0, q0, h0⟩ := value_read y0
  obtain ⟨v1, q1, h1⟩ := value_read y1
  obtain ⟨v2, q2, h2⟩ := value_read y2
  obtain ⟨v3, q3, h3⟩ := value_read y3
  simp [Value.cells] at q0 q1 q2 q3
  obtain ⟨q0, q4, q5⟩ := q0
  obtain ⟨q1, q6, q7⟩ := q1
  obtain ⟨q2, q8, q9⟩ := q2
  obtain ⟨q3, q10, q11⟩ := q3
  subst q0 q1 q2 q3 q4 q5 q6 q7 q8 q9 q10 q11
  refine ⟨⟨v0, v1, v2, v3⟩, rfl, fun i hi => ?_⟩
  rcases (by omega : i = 0 ∨ i = 1 ∨ i = 2 ∨ i = 3) with rfl | rfl | rfl | rfl
  · exact h0
  · exact h1
  · exact h2
  · exact h3
end Go.Proofs.YtlgghomjlhnijaaGreat

namespace Go.Proofs.YtlgghomjlhnijaaGreat
open Go.ChangeShapes Go.WideShapes Go.ChangeAt Go.RowKit Go.WideMaps Go.WideElems Mm

set_option maxRecDepth 100000 in
theorem topSafe_lifted (os : Os) (started : os.Started) (H : Type) (enc : TypeId × Value → H) :
    ReturnsInHanded {} Tryz.checked os 3 .any (Rows.topSafeSpec.pre6 enc Tryz.prog Tryz.f3 Rows.topSafeRow.domain false) (Rows.topSafeSpec.post enc Tryz.prog Tryz.f3 false true false false) := by
  refine returnsInHanded_of_change (C := Tryz.checked) own started (by kernel_rfl) Tryz.func3
    (ChangeSpec.witness6 (enc := enc) (C := Tryz.checked) false ⟨#[], #[.agg #[.slice none 0 0, .int .i64 0, .int .i64 0], .slice none 0 0], []⟩ 8 (by kernel_rfl) (by kernel_rfl) (by kernel_rfl) (by kernel_rfl)) ?_
  intro W base args ds gs before hval0 hW hcnd _
  have hval : ∀ (j : Nat) t v, Tryz.f3.params[j]? = some t → args[j]? = some v → Value.okWide Tryz.prog W .any base t v := hval0
  have hW' := hW
  obtain ⟨p, q, hA0, hV, rfl, hfz, hnd⟩ := hW
  have hA : DataW.TrodAll enc Tryz.prog W 0 (fun _ => true) true Tryz.f3.params.toList args.toList ds p := hA0
  rw [Tryz.params3] at hA hval
  obtain ⟨v0, v1, d0, d1, p0, p1, rfl, rfl, rfl, h0, h1⟩ := trodAll_two hA
  obtain ⟨rfl, rfl⟩ := trodVars_none hV
  obtain ⟨pl, oa, cap, rfl, hpl⟩ := open_pol (hval 0 26 v0 rfl rfl) h0
  obtain ⟨ob, nb, capb, B, rfl, hnb, hB⟩ := open_acts (hval 1 27 v1 rfl rfl) h1
  clear hA0 hval0
  simp only [List.append_nil] at hW'
  refine (topSafe_any pl oa cap ob nb capb (by unfold maxLen at hnb; omega) B W hpl hB).mono fun e W' ⟨he, hb⟩ => ?_
  subst he
  have hlt : ∀ x ∈ p0 ++ p1, x.block < W.heap.size := fun x hx => by simpa using hW'.lt x hx
  exact ⟨_, rfl, post_law' (pa := p0 ++ p1) (pv := []) hW' (fun _ _ _ => trodAll_mk1 (shut_bool Tryz.underlying4 _))
    (trodAll_mk2 (Below.trod laidOut (by kernel_rfl) (of_decide_eq_true (by kernel_rfl)) h0 hb fun x hx => hlt x (List.mem_append.2 (.inl hx))) (Below.trod laidOut (by kernel_rfl) (of_decide_eq_true (by kernel_rfl)) h1 hb fun x hx => hlt x (List.mem_append.2 (.inr hx)))) (fun _ _ => rfl) (List.append_nil _).symm hb⟩

theorem topSafe_holds : Rows.TopSafeSaid :=
  OpenClaim.holds_of_wide 3 Tryz.f3 rfl rfl rfl rfl rfl rfl rfl ⟨rfl, rfl, rfl, rfl, rfl⟩ rfl rfl rfl rfl rfl (by kernel_rfl) Tryz.func3 (by kernel_rfl)
    (of_decide_eq_true (by kernel_rfl)) (by unfold Func.isWrapper; first | (rw [if_pos (by decide +kernel)]; kernel_rfl) | (rw [if_neg (by decide +kernel)]; exact ⟨rfl, rfl⟩))
    (fun os started H enc _ => topSafe_lifted os started H enc)
#print axioms topSafe_holds
end Go.Proofs.YtlgghomjlhnijaaGreat
