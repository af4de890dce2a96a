/- modelled: the document's ward, new; wards: a closed fact. -/
import Derived.Test.YtklibmijiecbfaaGreatK39
import Derived.Test.YtklibmijiecbfaaGreatK38
namespace Go.Proofs.YtklibmijiecbfaaGreat
open Go.RowKit Mm

def nilS : Nat → Value := fun _ => .slice none 0 0
set_option maxRecDepth 100000 in
set_option maxHeartbeats 2000000 in
theorem modelled_any (p : POL) (oa : Option Addr) (cap B : Nat) (W : World) (hpol : ∀ V : World, (∀ k, k < B → V.heap[k]? = W.heap[k]?) → B ≤ V.heap.size → IsPol oa cap p V) (hB : B ≤ W.heap.size) :
  Calls Tryz.prog 11 #[polV p oa cap] W fun e w' => e = .returned (.pointer (some ⟨W.heap.size + 1, 0, none⟩)) ∧ DX (W.heap.size + 1) ⟨p, oa, cap, B⟩ newD nilS (.slice none 0 0) w' ∧ Below W.heap.size W w' := by
 obtain ⟨zt, hzt⟩ : ∃ z, z = VA 877 (Vr.lay (LD (W.heap.size + 1) ⟨p, oa, cap, B⟩ (fun _ => dIdle 0) nilS (.slice none 0 0)) zeroR) := ⟨_, rfl⟩
 have HZT := hide hzt
 obtain ⟨n, hn⟩ : ∃ n, n = p.rules.length := ⟨_, rfl⟩
 obtain ⟨ak, hak⟩ : ∃ n, n = p.els.kind := ⟨_, rfl⟩
 obtain ⟨ae, hae⟩ : ∃ n, n = p.els.errno := ⟨_, rfl⟩
 have HZ2 := hide (show zt = VA0 877 (fun i => if 3 ≤ i ∧ i < 783 then cellR zeroR (i - 3) else if i = 0 then .slice oa n cap else if i = 1 then .int .i64 ak else if i = 2 then .int .i64 ae else if i < 876 then cellDT (dIdle 0) (.slice none 0 0) ((i - 783) % 31) else .slice none 0 0) by
  rw [hzt, ← VA_eq]
  refine VA_congr _ _ _ fun i hi => ?_
  rw [hn, hak, hae]
  rfl)
 unfold polV
 rw [← hn, ← hak, ← hae]
 clear hzt hn hak hae
 go_enter Tryz.func11, Tryz.ntmps11
 go_wp2_with (first
  | (refine wpList_buildTo rfl 95 _ rfl (some 4) rfl zt (by rw [HZ2.out]; kernel_rfl) ?_))
 go_ret
 obtain ⟨V1, hV1⟩ : ∃ V1, V1 = W.alloc (.cells #[.slice oa n cap, .int .i64 ak, .int .i64 ae] 26) := ⟨_, rfl⟩
 have hs1 : V1.heap.size = W.heap.size + 1 := by rw [hV1, World.size_alloc]
 have hb1 : Below W.heap.size W V1 := by rw [hV1]; exact box_below _ _
 rw [← hV1]
 have hb2 := box_below V1 (.cells zt 95)
 have hbb := below_next hb1 hb2
 refine ⟨by first | rfl | rw [← hs1], ⟨⟨zeroR, ?_, rel_zero⟩, World.ownsRow_nil _ _ _ _, fun _ _ => World.ownsRow_nil _ _ _ _, ⟨fun e => (by cases e), fun _ _ e => (by cases e)⟩, fun _ _ _ e => (by cases e), Nat.le_trans hB hbb.size, fun U hU hs => hpol U (fun k hk => ?_) hs⟩, hbb⟩
 ·
  show (V1.alloc (.cells zt 95)).heap[W.heap.size + 1]? = _
  rw [← hs1, HZT.out, ← hs1]
  exact heap_alloc_new V1 _
 ·
  have hk' : k < B := hk
  exact (hU k hk (by omega) (fun e => by cases e) (fun _ _ e => by cases e)).trans (hbb.block k (by omega))
def polA : POL := ⟨[], ⟨1, 0⟩⟩
def callA : KL := ⟨3221225534, 3, 0, 0, 0, 0⟩
set_option maxRecDepth 20000 in
set_option maxHeartbeats 2000000 in
theorem wards_any (W : World) : Calls Tryz.prog 4 #[] W fun e w' => e = .returned (.bool true) ∧ Below W.heap.size W w' := by
 have hp : polF polA = 0 := by decide
 have hpl : PlOk polA := ⟨fun r hr => (by cases hr), ⟨(by unfold I64; exact ⟨by decide, by decide⟩), (by unfold I64; exact ⟨by decide, by decide⟩)⟩⟩
 have hq : PolOk polA := pol_ok hp hpl
 have hkl : KlOk callA := ⟨by decide, by decide, by decide, by decide, by decide, by decide⟩
 have HN := new_ok polA hp none 0 W ⟨IsRules.nil _ _, Nat.le_refl _, Nat.zero_le _, hpl⟩
 rw [show polV polA none 0 = .agg #[.slice none 0 0, .int .i64 1, .int .i64 0] from rfl] at HN
 have HPQ := hide (And.intro hp hq)
 have HKL := hide hkl
 clear hp hq hkl hpl
 go_enter Tryz.func4, Tryz.ntmps4
 go_wp2_with fail
 refine HN.mono ?_
 rintro e X0 ⟨g, gm, P, rfl, hX0⟩
 have hpp := hX0.pol
 have HST := fun (s : WS) (lv : Value) Y (hi : Inv P.p s) (hl : s.log.length ≤ 1000000) (h : WX g gm P s lv Y) => wstep_any 1 (by rw [hpp]; exact HPQ.out.1) hi h hl
 unfold GoesS at HST
 rw [hpp] at HST
 have HE := wenter_any 1 callA hX0.ward
 rw [show (enterW 1 callA newS).2 = 0 from by kernel_rfl, errV_zero, show klV callA = .agg #[.int .u32 3221225534, .int .u32 3, .int .u64 0, .int .u64 0, .int .u64 0, .int .u64 0] from rfl] at HE
 have HI1 := hide (enterW_inv (new_inv polA) 1 HKL.out)
 obtain ⟨s1, hs1⟩ : ∃ s, s = (enterW 1 callA newS).1 := ⟨_, rfl⟩
 have HQ1 := hide (show (stepW polA 1 s1).2.1 = true ∧ (stepW polA 1 s1).2.2 = 0 by rw [hs1]; exact ⟨by kernel_rfl, by kernel_rfl⟩)
 have HQ2 := hide (show (stepW polA 1 (stepW polA 1 s1).1).2.1 = true ∧ (stepW polA 1 (stepW polA 1 s1).1).2.2 = 0 by rw [hs1]; exact ⟨by kernel_rfl, by kernel_rfl⟩)
 have HQ3 := hide (show (stepW polA 1 (stepW polA 1 s1).1).1.log = [⟨1, 1, callA, zeroVS, 0⟩] by rw [hs1]; kernel_rfl)
 have HL1 := hide (show s1.log.length ≤ 0 by rw [hs1, enterW_log]; exact Nat.le_refl _)
 rw [← hs1] at HE HI1
 have HI2 := hide (stepW_inv HPQ.out.1 HPQ.out.2 HI1.out 1)
 have HL2 := hide (stepW_log HPQ.out.1 HI1.out 1)
 have HC1 := fun lv Y h => HST s1 lv Y HI1.out (by have := HL1.out; omega) h
 simp only [HQ1.out.1, HQ1.out.2, errV_zero] at HC1
 obtain ⟨s2, hs2⟩ : ∃ s, s = (stepW polA 1 s1).1 := ⟨_, rfl⟩
 rw [← hs2] at HQ2 HQ3 HI2 HL2
 simp only [← hs2] at HC1
 have HC2 := fun lv Y h => HST s2 lv Y HI2.out (by have := HL1.out; have := HL2.out; omega) h
 simp only [HQ2.out.1, HQ2.out.2, errV_zero] at HC2
 obtain ⟨s3, hs3⟩ : ∃ s, s = (stepW polA 1 s2).1 := ⟨_, rfl⟩
 rw [← hs3] at HQ3
 simp only [← hs3] at HC2
 have HB0 := hide hX0.below
 have HGM := hide (And.intro hX0.g hX0.m)
 have HLG := fun lv Y (h : WX g gm P s3 lv Y) => wlog_any h (by rw [HQ3.out]; exact Nat.le_of_ble_eq_true rfl)
 simp only [HQ3.out] at HLG
 clear hs1 hs2 hs3 HST HN hX0 hpp
 go_wp2_with (go_at_call 14; refine HE.mono ?_; rintro e X1 ⟨rfl, h1, h2⟩)
 refine (HC1 _ X1 h1).mono ?_
 rintro e X2 ⟨rfl, lv2, h3, h4⟩
 go_wp2_with fail
 refine (HC2 _ X2 h3).mono ?_
 rintro e X3 ⟨rfl, lv3, h5, h6⟩
 have HF := hide (h2.trans (h4.trans h6))
 clear HC1 HC2 HE h1 h2 h3 h4 h6
 go_wp2_with fail
 refine (HLG lv3 X3 h5).mono ?_
 rintro e X4 ⟨rfl, hrow, hb⟩
 have r0 : X4.cell? ⟨X3.heap.size, 0, none⟩ = some (.int .i64 1) := cell_of_row _ _ 0 _ _ _ hrow
 have r1 : X4.cell? ⟨X3.heap.size, 1, none⟩ = some (.int .i64 1) := cell_of_row _ _ 1 _ _ _ hrow
 have HB4 := hide (below_next (HF.out.below HB0.out HB0.out.size HGM.out.1 HGM.out.2 (fun k hk => by cases hk)) hb)
 clear hrow hb HLG h5
 go_wp2_with (go_at_call 10; refine (same_nil 0 _).mono ?_; rintro e w' ⟨rfl, hw⟩; rw [hw]; clear hw w')
 go_ret
 exact ⟨rfl, HB4.out⟩
end Go.Proofs.YtklibmijiecbfaaGreat
