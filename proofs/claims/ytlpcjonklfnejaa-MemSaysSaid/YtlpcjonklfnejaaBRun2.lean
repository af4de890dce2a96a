/- Run. -/
import Derived.Test.YtlpcjonklfnejaaBRun
namespace Go.Proofs.Ytlpcjonklfnejaa
open Go.RowKit

/-- What comes of a program, in at most f steps from instruction p on, the number being x, d steps being done: what is returned, and in how many steps. -/
def runR (L : Nat → IN) (c : CL) : Nat → Nat → Nat → Nat → Nat × Nat
  | 0, _, _, _ => (0, 0)
  | f + 1, p, x, d =>
    if (L p).op = 8 then ((L p).k, d + 1)
    else if (L p).op = 1 then runR L c f (p + 1) (wordN c ((L p).k / 4)) (d + 1)
    else if (L p).op = 2 then runR L c f (p + 1) (x &&& (L p).k) (d + 1)
    else runR L c f (p + 1 + (skipI (L p) x).toNat) x (d + 1)

/-- What an instruction that is right is like. -/
theorem fine_ins {x : IN} {m : Nat} (h : faultI x m = 0) : 1 ≤ x.op ∧ x.op ≤ 8 ∧ 0 ≤ x.jt ∧ x.jt ≤ 255 ∧ 0 ≤ x.jf ∧ x.jf ≤ 255 ∧ (¬ (4 ≤ x.op ∧ x.op ≤ 7) → x.jt = 0 ∧ x.jf = 0) ∧ (x.op = 1 → placeB x.k = true) ∧ (x.op = 3 → x.k < m) ∧ (4 ≤ x.op ∧ x.op ≤ 7 → x.jt < m ∧ x.jf < m) := by
  obtain ⟨op, jt, jf, k⟩ := x
  unfold faultI at h
  simp only at h ⊢
  split at h
  · cases h
  rename_i h1
  split at h
  · cases h
  rename_i h2
  split at h
  · cases h
  rename_i h3
  simp only [skipB, branchB, Bool.or_eq_true, Bool.and_eq_true, Bool.not_eq_true', decide_eq_true_eq, Bool.and_eq_false_iff, decide_eq_false_iff_not, bne_iff_ne, beq_iff_eq, not_or, not_and] at h1 h2 h3
  refine ⟨by omega, by omega, by omega, by omega, by omega, by omega, by omega, fun e => ?_, by omega, by omega⟩
  have := h3.1.1 e
  simpa using this
structure Fit (n : Nat) (L : Nat → IN) : Prop where
  pos : 0 < n
  most : n ≤ 4096
  each : ∀ i, i < n → faultI (L i) (n - 1 - i) = 0
  last : (L (n - 1)).op = 8
theorem fit_of {n : Nat} {L : Nat → IN} (h : checkR n L = 0) : Fit n L := by
  unfold checkR at h
  split at h
  · cases h
  rename_i h1
  split at h
  · rename_i h2
    split at h
    · rename_i h3
      exact ⟨by omega, by omega, faultTo_each h2, h3⟩
    · cases h
  · rename_i h2
    exact absurd h h2
theorem Fit.next {n : Nat} {L : Nat → IN} (h : Fit n L) {p : Nat} (hp : p < n) (h8 : (L p).op ≠ 8) : p + 1 < n := by
  rcases Nat.lt_or_ge (p + 1) n with h1 | h1
  · exact h1
  · exact absurd (by rw [show p = n - 1 by omega]; exact h.last) h8
theorem Fit.skip {n : Nat} {L : Nat → IN} (h : Fit n L) {p : Nat} (hp : p < n) (h8 : (L p).op ≠ 8) (h1 : (L p).op ≠ 1) (h2 : (L p).op ≠ 2) (x : Nat) : 0 ≤ skipI (L p) x ∧ p + 1 + (skipI (L p) x).toNat < n := by
  have hf := fine_ins (h.each p hp)
  have hk := h.next hp h8
  unfold skipI
  split
  · rename_i h3
    rw [beq_iff_eq] at h3
    have := hf.2.2.2.2.2.2.2.2.1 h3
    omega
  · rename_i h3
    rw [beq_iff_eq] at h3
    have := hf.2.2.2.2.2.2.2.2.2 (by omega)
    split <;> omega

theorem wordN_lt (c : CL) (hc : ClOk c) (i : Nat) : wordN c i < 4294967296 := by
  obtain ⟨h1, h2, h3, h4, h5, h6⟩ := hc
  match i with
  | 0 => exact h2
  | 1 => exact h1
  | 2 => exact Nat.mod_lt _ (by decide)
  | 3 => simp only [wordN]; omega
  | 4 => exact Nat.mod_lt _ (by decide)
  | 5 => simp only [wordN]; omega
  | 6 => exact Nat.mod_lt _ (by decide)
  | 7 => simp only [wordN]; omega
  | 8 => exact Nat.mod_lt _ (by decide)
  | 9 => simp only [wordN]; omega
  | n + 10 => exact Nat.zero_lt_succ _

/-- A call lies in block g. -/
structure CallAt (W : World) (g : Nat) (c : CL) : Prop where
  k0 : W.cell? ⟨g, 0, none⟩ = some (.int .u32 c.arch)
  k1 : W.cell? ⟨g, 1, none⟩ = some (.int .u32 c.nr)
  k2 : W.cell? ⟨g, 2, none⟩ = some (.int .u64 c.a0)
  k3 : W.cell? ⟨g, 3, none⟩ = some (.int .u64 c.a1)
  k4 : W.cell? ⟨g, 4, none⟩ = some (.int .u64 c.a2)
  k5 : W.cell? ⟨g, 5, none⟩ = some (.int .u64 c.a3)
theorem CallAt.on {W V : World} {g : Nat} {c : CL} (h : CallAt W g c) (hc : ∀ j, V.cell? ⟨g, j, none⟩ = W.cell? ⟨g, j, none⟩) : CallAt V g c :=
  ⟨(hc _).trans h.k0, (hc _).trans h.k1, (hc _).trans h.k2, (hc _).trans h.k3, (hc _).trans h.k4, (hc _).trans h.k5⟩
theorem call_boxed (W : World) (c : CL) : CallAt (W.alloc (.cells #[.int .u32 c.arch, .int .u32 c.nr, .int .u64 c.a0, .int .u64 c.a1, .int .u64 c.a2, .int .u64 c.a3] 46)) W.heap.size c := by
  have h := fun i => cell_of_row (W.alloc (.cells #[.int .u32 c.arch, .int .u32 c.nr, .int .u64 c.a0, .int .u64 c.a1, .int .u64 c.a2, .int .u64 c.a3] 46)) W.heap.size i _ _ _ (heap_alloc_new W _)
  exact ⟨h 0, h 1, h 2, h 3, h 4, h 5⟩

theorem run_bad (oa : Option Addr) (n cap : Nat) (hn : n ≤ 9223372036854775807) (L : Nat → IN) (c : CL) (w : World) (h : IsProg oa n L w) (hf : checkR n L ≠ 0) :
    Calls Try.prog 47 #[.slice oa n cap, callV c] w fun e w' => e = .returned (.tuple #[.int .u32 0, .int .i64 0, errV (checkR n L)]) ∧ Below w.heap.size w w' := by
  unfold callV
  obtain ⟨W0, hW0⟩ : ∃ W0, W0 = w.alloc (.cells #[.int .u32 c.arch, .int .u32 c.nr, .int .u64 c.a0, .int .u64 c.a1, .int .u64 c.a2, .int .u64 c.a3] 46) := ⟨_, rfl⟩
  have hb0 : Below w.heap.size w W0 := by rw [hW0]; exact box_below _ _
  have HC := check_any oa n cap hn L W0 (h.on hb0)
  rw [errV_pos hf] at HC ⊢
  have HW := hide hW0
  rw [hW0] at HC
  clear hW0 h
  go_enter Try.func47, Try.ntmps47
  go_wp2_with (go_at_call 48; refine HC.mono ?_; rintro e w' ⟨rfl, hb⟩)
  go_ret3
  exact ⟨rfl, below_next (by rw [← HW.out]; exact hb0) hb⟩

set_option maxHeartbeats 2000000 in
theorem run_ok (oa : Option Addr) (n cap : Nat) (L : Nat → IN) (c : CL) (hc : ClOk c) (w : World) (h : IsProg oa n L w) (hf : checkR n L = 0) :
    Calls Try.prog 47 #[.slice oa n cap, callV c] w fun e w' => e = .returned (.tuple #[.int .u32 (runR L c n 0 0 0).1, .int .i64 (runR L c n 0 0 0).2, .nilIface]) ∧ Below w.heap.size w w' := by
  have HF := hide (fit_of hf)
  have hpos := HF.out.pos
  have hmost := HF.out.most
  unfold callV
  obtain ⟨W0, hW0⟩ : ∃ W0, W0 = w.alloc (.cells #[.int .u32 c.arch, .int .u32 c.nr, .int .u64 c.a0, .int .u64 c.a1, .int .u64 c.a2, .int .u64 c.a3] 46) := ⟨_, rfl⟩
  have hb0 : Below w.heap.size w W0 := by rw [hW0]; exact box_below _ _
  have hC0 : CallAt W0 w.heap.size c := by rw [hW0]; exact call_boxed w c
  have hg0 : w.heap.size < W0.heap.size := by rw [hW0]; simp
  have HC := check_any oa n cap (by omega) L W0 (h.on hb0)
  rw [hf, errV_zero] at HC
  rw [hW0] at HC
  obtain ⟨b, off, rfl, hb, hA0⟩ := h.lie hpos
  have HA := hide (show ∀ i, i < n → InsAt W0 b (off + i * 4) (L i) from fun i hi => (hA0 i hi).on fun j => (bcell hb0).1 b j hb)
  obtain ⟨g, hg⟩ : ∃ g, g = w.heap.size := ⟨_, rfl⟩
  rw [← hg] at hb hb0 hC0 hg0
  obtain ⟨R, hR⟩ : ∃ R, R = runR L c n 0 0 0 := ⟨_, rfl⟩
  rw [← hR]
  replace hR := hide hR
  have HW := hide hW0
  have HCL := hide hC0
  have HB0 := hide hb0
  clear hW0 h hA0 hf hC0 hb0
  go_enter Try.func47, Try.ntmps47
  go_wp2_with (go_at_call 48; refine HC.mono ?_; rintro e w1 ⟨rfl, hb1⟩)
  rw [← hg]
  rw [← HW.out] at hb1
  replace hb1 := hide hb1
  clear HC
  replace hg := hide hg
  go_loopw [8, 9, 21] (fun N P I w' => ∃ d p x : Nat, d ≤ n ∧ N = .int .u32 x ∧ P = .int .i64 p ∧ I = .int .i64 d ∧ p < n ∧ Hid (x < 4294967296) ∧ Hid (d ≤ p) ∧ Hid (runR L c (n - d) p x d = R) ∧ Hid (Below W0.heap.size W0 w')) (fun _ _ I _ => n - (intOf I).toNat)
  case atStart => exact ⟨0, 0, 0, by omega, rfl, rfl, rfl, hpos, hide (by decide), hide (Nat.le_refl _), hide hR.out.symm, hb1⟩
  case round =>
    obtain ⟨d, p, x, hd, rfl, rfl, rfl, hp, HX, HD, HR, HB⟩ := hrel
    have hdn : d < n := by have := HD.out; omega
    have hI := (HA.out p hp).on fun j => (bcell HB.out).1 b j (by omega)
    have hCa := HCL.out.on fun j => (bcell HB.out).1 g j hg0
    have HN := hide (fun h8 => HF.out.next hp h8)
    have HS := hide (fun h8 h1 h2 => HF.out.skip hp h8 h1 h2 x)
    have HE := hide (fine_ins (HF.out.each p hp))
    have hgw : g < wr.heap.size := Nat.lt_of_lt_of_le hg0 HB.out.size
    have hok := hI.ok
    have hRR := HR.out
    rw [show n - d = (n - d - 1) + 1 by omega, runR, show n - d - 1 = n - (d + 1) by omega] at hRR
    obtain ⟨y, hy⟩ : ∃ y, y = L p := ⟨_, rfl⟩
    rw [← hy] at hI HN HS HE hok hRR
    clear hy HR
    obtain ⟨c0, c1, c2, c3, _⟩ := hI
    obtain ⟨q0, q1, q2, q3, q4, q5⟩ := hCa
    by_cases h8 : y.op = 8
    · rw [if_pos h8] at hRR
      replace hRR := hide hRR
      obtain ⟨op, jt, jf, k⟩ := y
      simp only at h8 c0 c1 c2 c3
      subst h8
      clear HN HS HE hok q0 q1 q2 q3 q4 q5
      go_wp2
      go_ret3
      exact ⟨by rw [← hRR.out]; rfl, (by rw [← hg.out]; exact HB0.out.trans ((HB.out.trans ((box_below wr _).mono HB.out.size)).mono (Nat.le_of_lt hg0)))⟩
    by_cases h1 : y.op = 1
    · rw [if_neg h8, if_pos h1] at hRR
      replace hRR := hide hRR
      have HWd := word_ok c hc y.k (HE.out.2.2.2.2.2.2.2.1 h1)
      have hnx := HN.out h8
      obtain ⟨op, jt, jf, k⟩ := y
      simp only at h1 c0 c1 c2 c3 HWd
      subst h1
      unfold callV at HWd
      clear HN HS HE h8 hok
      go_wp2_with (go_at_call 43; refine (HWd _).mono ?_; rintro e w2 ⟨rfl, hb2⟩)
      go_round
      case rel => exact ⟨d + 1, p + 1, _, by omega, rfl, by go_num, by go_num, hnx, hide (wordN_lt c hc _), hide (by have := HD.out; omega), hRR, hide (below_next (below_next HB.out (box_below wr _)) hb2)⟩
      case measure => simp [intOf]; omega
    by_cases h2 : y.op = 2
    · rw [if_neg h8, if_neg h1, if_pos h2] at hRR
      replace hRR := hide hRR
      have hnx := HN.out h8
      have hbit := u32_and_nat x y.k HX.out hok.k2
      obtain ⟨op, jt, jf, k⟩ := y
      simp only at h2 c0 c1 c2 c3 hbit
      subst h2
      have HL := hide (show x &&& k < 4294967296 from Nat.lt_of_le_of_lt Nat.and_le_left HX.out)
      clear HN HS HE h8 h1 hok q0 q1 q2 q3 q4 q5
      go_wp2
      go_round
      case rel => exact ⟨d + 1, p + 1, _, by omega, rfl, by go_num, by go_num, hnx, HL, hide (by have := HD.out; omega), hRR, hide (below_next HB.out (box_below wr _))⟩
      case measure => simp [intOf]; omega
    · rw [if_neg h8, if_neg h1, if_neg h2] at hRR
      replace hRR := hide hRR
      obtain ⟨hs0, hs1⟩ := HS.out h8 h1 h2
      have HSk := skip_any y hok x HX.out
      obtain ⟨sk, hsk⟩ : ∃ sk, sk = (skipI y x).toNat := ⟨_, rfl⟩
      rw [← hsk] at hs1
      rw [show skipI y x = (sk : Int) by omega] at HSk
      replace hRR := hide (by have := hRR.out; rw [← hsk] at this; exact this)
      obtain ⟨op, jt, jf, k⟩ := y
      simp only at h8 h1 h2 c0 c1 c2 c3 HSk
      unfold insV at HSk
      simp only at HSk
      clear HN HS HE hok q0 q1 q2 q3 q4 q5 hs0 hsk
      have d8 : (op == 8) = false := by rw [beq_eq_false_iff_ne]; exact h8
      have d1 : (op == 1) = false := by rw [beq_eq_false_iff_ne]; exact h1
      have d2 : (op == 2) = false := by rw [beq_eq_false_iff_ne]; exact h2
      clear h8 h1 h2
      go_wp2_with (go_at_call 67; refine (HSk _).mono ?_; rintro e w2 ⟨rfl, hb2⟩)
      go_round
      case rel => exact ⟨d + 1, p + 1 + sk, x, by omega, rfl, by go_num, by go_num, hs1, HX, hide (by have := HD.out; omega), hRR, hide (below_next (below_next HB.out (box_below wr _)) hb2)⟩
      case measure => simp [intOf]; omega
end Go.Proofs.Ytlpcjonklfnejaa
