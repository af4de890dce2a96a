/- Programs: Check, Run. -/
import Derived.Test.YtphkhfeofoadcabK4
import Derived.Carry
import Derived.WideMake
import Derived.Deep.AppendLies
import Derived.Laws.OwnMore
import Derived.Deep.Onto
namespace Go.Proofs.Ytphkhfeofoadcab.Bp
open Go.RowKit

/-- An instruction's cells lie from o on. -/
structure InsAt (W : World) (b o : Nat) (x : IN) : Prop where
  k0 : W.cell? ⟨b, o, none⟩ = some (.int .i64 x.op)
  k1 : W.cell? ⟨b, o + 1, none⟩ = some (.int .i64 x.jt)
  k2 : W.cell? ⟨b, o + 2, none⟩ = some (.int .i64 x.jf)
  k3 : W.cell? ⟨b, o + 3, none⟩ = some (.int .u32 x.k)
  ok : InOk x
theorem InsAt.on {W V : World} {b o : Nat} {x : IN} (h : InsAt W b o x) (hc : ∀ j, V.cell? ⟨b, j, none⟩ = W.cell? ⟨b, j, none⟩) : InsAt V b o x :=
  ⟨(hc _).trans h.k0, (hc _).trans h.k1, (hc _).trans h.k2, (hc _).trans h.k3, h.ok⟩
/-- A slice of n instructions in a world. -/
structure IsProg (oa : Option Addr) (n : Nat) (L : Nat → IN) (W : World) : Prop where
  lie : 0 < n → ∃ b off, oa = some ⟨b, off, none⟩ ∧ b < W.heap.size ∧ ∀ i, i < n → InsAt W b (off + i * 4) (L i)
theorem IsProg.on {oa : Option Addr} {n : Nat} {L : Nat → IN} {W V : World} (h : IsProg oa n L W) (hb : Below W.heap.size W V) : IsProg oa n L V :=
  ⟨fun h0 => by
    obtain ⟨b, off, h1, h2, h3⟩ := h.lie h0
    exact ⟨b, off, h1, Nat.lt_of_lt_of_le h2 hb.size, fun i hi => (h3 i hi).on fun j => (bcell hb).1 b j h2⟩⟩

/-- The first fault of the first i. -/
def faultTo (n : Nat) (L : Nat → IN) : Nat → Nat
  | 0 => 0
  | i + 1 => if faultTo n L i = 0 then faultI (L i) (n - 1 - i) else faultTo n L i
/-- What is wrong with a program: D2. -/
def checkR (n : Nat) (L : Nat → IN) : Nat :=
  if n = 0 ∨ 4096 < n then 2 else if faultTo n L n = 0 then (if (L (n - 1)).op = 8 then 0 else 3) else faultTo n L n
theorem faultTo_stays {n : Nat} {L : Nat → IN} {i : Nat} (h : faultTo n L i ≠ 0) : ∀ j, i ≤ j → faultTo n L j = faultTo n L i
  | 0, hj => by rw [show i = 0 by omega]
  | j + 1, hj => by
    by_cases he : i = j + 1
    · rw [he]
    · rw [faultTo, faultTo_stays h j (by omega), if_neg h]
theorem faultTo_each {n : Nat} {L : Nat → IN} {j : Nat} (h : faultTo n L j = 0) : ∀ i, i < j → faultI (L i) (n - 1 - i) = 0 := fun i hi => by
  have h1 : faultTo n L (i + 1) = 0 := Classical.byContradiction fun hc => hc (by rw [← faultTo_stays hc j (by omega)]; exact h)
  have h0 : faultTo n L i = 0 := Classical.byContradiction fun hc => hc (by rw [← faultTo_stays hc j (by omega)]; exact h)
  rw [faultTo, if_pos h0] at h1
  exact h1

theorem errV_zero : errV 0 = .nilIface := rfl
theorem errV_pos {f : Nat} (h : f ≠ 0) : errV f = .iface 63 (.int .i64 f) := if_neg h

theorem check_any (oa : Option Addr) (n cap : Nat) (hn : n ≤ 9223372036854775807) (L : Nat → IN) (w : World) (h : IsProg oa n L w) :
    Calls Try.prog 14 #[.slice oa n cap] w fun e w' => e = .returned (errV (checkR n L)) ∧ Below w.heap.size w w' := by
  by_cases h0 : n = 0
  · subst h0
    go_enter Try.func14, Try.ntmps14
    go_wp2
    go_ret
    exact ⟨rfl, Below.refl _ _⟩
  by_cases h1 : 4096 < n
  · have HF := hide (show checkR n L = 2 from if_pos (.inr h1))
    go_enter Try.func14, Try.ntmps14
    go_wp2
    go_ret
    exact ⟨by rw [HF.out]; rfl, Below.refl _ _⟩
  have HR := hide (show checkR n L = if faultTo n L n = 0 then (if (L (n - 1)).op = 8 then 0 else 3) else faultTo n L n from if_neg (by omega))
  have d0 : ((n : Int) == 0) = false := by rw [beq_eq_false_iff_ne]; omega
  have d1 : decide ((4096 : Int) < (n : Int)) = false := by simp; omega
  obtain ⟨b, off, rfl, hb, hA0⟩ := h.lie (by omega)
  have HA := hide hA0
  clear h hA0
  go_enter Try.func14, Try.ntmps14
  go_wp2
  go_loopw [16] (fun I w' => ∃ i : Nat, i ≤ n ∧ I = .int .i64 i ∧ Hid (Below w.heap.size w w') ∧ Hid (faultTo n L i = 0)) (fun I _ => n - (intOf I).toNat)
  case atStart => exact ⟨0, by omega, rfl, hide (Below.refl _ _), hide rfl⟩
  case round =>
    obtain ⟨i, hi, rfl, HB, HG⟩ := hrel
    by_cases hlt : i < n
    · have hI := (HA.out i hlt).on fun j => (bcell HB.out).1 b j hb
      have HQ := hide (show faultTo n L (i + 1) = faultI (L i) (n - 1 - i) by rw [faultTo, if_pos HG.out])
      have hok := hI.ok
      obtain ⟨x, hx⟩ : ∃ x, x = L i := ⟨_, rfl⟩
      rw [← hx] at hI hok HQ
      have HC := checkInsn_any x hok (n - 1 - i) (by omega)
      obtain ⟨f, hf⟩ : ∃ f, f = faultI x (n - 1 - i) := ⟨_, rfl⟩
      rw [← hf] at HC HQ
      have hm : ((n - 1 - i : Nat) : Int) = (n : Int) - 1 - i := by omega
      rw [hm] at HC
      obtain ⟨c0, c1, c2, c3, _⟩ := hI
      clear hx hok hf hm
      obtain ⟨op, jt, jf, k⟩ := x
      unfold insV at HC
      simp only at c0 c1 c2 c3 HC
      by_cases hz : f = 0
      · subst hz
        rw [errV_zero] at HC
        go_wp2_with (go_at_call 24; refine (HC _).mono ?_; rintro e w1 ⟨rfl, hb1⟩)
        go_round
        case rel => exact ⟨i + 1, by omega, by go_num, hide (below_next HB.out hb1), HQ⟩
        case measure => simp [intOf]; omega
      · rw [errV_pos hz] at HC
        have HE := hide (show checkR n L = f by
          have h1 : faultTo n L n = f := (faultTo_stays (by rw [HQ.out]; exact hz) n (by omega)).trans HQ.out
          rw [HR.out, if_neg (by rw [h1]; exact hz), h1])
        go_wp2_with (go_at_call 24; refine (HC _).mono ?_; rintro e w1 ⟨rfl, hb1⟩)
        go_ret
        exact ⟨by rw [HE.out, errV_pos hz]; rfl, below_next HB.out hb1⟩
    · obtain rfl : i = n := by omega
      have hI := (HA.out (i - 1) (by omega)).on fun j => (bcell HB.out).1 b j hb
      have c0 := hI.k0
      have HE := hide (show checkR i L = if (L (i - 1)).op = 8 then 0 else 3 by rw [HR.out, if_pos HG.out])
      obtain ⟨op, hop⟩ : ∃ op, op = (L (i - 1)).op := ⟨_, rfl⟩
      rw [← hop] at c0 HE
      clear hop hI
      obtain ⟨j, rfl⟩ : ∃ j, i = j + 1 := ⟨i - 1, by omega⟩
      rw [Nat.add_sub_cancel] at c0
      by_cases h8 : op = 8
      · subst h8
        go_wp2
        go_ret
        exact ⟨by rw [HE.out]; rfl, HB.out⟩
      · have d8 : (op != 8) = true := by rw [bne_iff_ne]; exact h8
        go_wp2
        go_ret
        exact ⟨by rw [HE.out, if_neg h8]; rfl, HB.out⟩
end Go.Proofs.Ytphkhfeofoadcab.Bp

/- Run. -/
namespace Go.Proofs.Ytphkhfeofoadcab.Bp
open Go.RowKit

/-- What comes of a program, in at most f steps from instruction p on, the number being x, d steps being done: what is returned, and in how many steps. -/
def runR (L : Nat → IN) (c : CL) : Nat → Nat → Nat → Nat → Nat × Nat
  | 0, _, _, _ => (0, 0)
  | f + 1, p, x, d =>
    if (L p).op = 8 then ((L p).k, d + 1)
    else if (L p).op = 1 then runR L c f (p + 1) (wordN c ((L p).k / 4)) (d + 1)
    else if (L p).op = 2 then runR L c f (p + 1) (x &&& (L p).k) (d + 1)
    else runR L c f (p + 1 + (skipI (L p) x).toNat) x (d + 1)

/-- What an instruction that is right is like. -/
theorem fine_ins {x : IN} {m : Nat} (h : faultI x m = 0) : 1 ≤ x.op ∧ x.op ≤ 8 ∧ 0 ≤ x.jt ∧ x.jt ≤ 255 ∧ 0 ≤ x.jf ∧ x.jf ≤ 255 ∧ (¬ (4 ≤ x.op ∧ x.op ≤ 7) → x.jt = 0 ∧ x.jf = 0) ∧ (x.op = 1 → placeB x.k = true) ∧ (x.op = 3 → x.k < m) ∧ (4 ≤ x.op ∧ x.op ≤ 7 → x.jt < m ∧ x.jf < m) := by
  obtain ⟨op, jt, jf, k⟩ := x
  unfold faultI at h
  simp only at h ⊢
  split at h
  · cases h
  rename_i h1
  split at h
  · cases h
  rename_i h2
  split at h
  · cases h
  rename_i h3
  simp only [skipB, branchB, Bool.or_eq_true, Bool.and_eq_true, Bool.not_eq_true', decide_eq_true_eq, Bool.and_eq_false_iff, decide_eq_false_iff_not, bne_iff_ne, beq_iff_eq, not_or, not_and] at h1 h2 h3
  refine ⟨by omega, by omega, by omega, by omega, by omega, by omega, by omega, fun e => ?_, by omega, by omega⟩
  have := h3.1.1 e
  simpa using this
structure Fit (n : Nat) (L : Nat → IN) : Prop where
  pos : 0 < n
  most : n ≤ 4096
  each : ∀ i, i < n → faultI (L i) (n - 1 - i) = 0
  last : (L (n - 1)).op = 8
theorem fit_of {n : Nat} {L : Nat → IN} (h : checkR n L = 0) : Fit n L := by
  unfold checkR at h
  split at h
  · cases h
  rename_i h1
  split at h
  · rename_i h2
    split at h
    · rename_i h3
      exact ⟨by omega, by omega, faultTo_each h2, h3⟩
    · cases h
  · rename_i h2
    exact absurd h h2
theorem Fit.next {n : Nat} {L : Nat → IN} (h : Fit n L) {p : Nat} (hp : p < n) (h8 : (L p).op ≠ 8) : p + 1 < n := by
  rcases Nat.lt_or_ge (p + 1) n with h1 | h1
  · exact h1
  · exact absurd (by rw [show p = n - 1 by omega]; exact h.last) h8
theorem Fit.skip {n : Nat} {L : Nat → IN} (h : Fit n L) {p : Nat} (hp : p < n) (h8 : (L p).op ≠ 8) (h1 : (L p).op ≠ 1) (h2 : (L p).op ≠ 2) (x : Nat) : 0 ≤ skipI (L p) x ∧ p + 1 + (skipI (L p) x).toNat < n := by
  have hf := fine_ins (h.each p hp)
  have hk := h.next hp h8
  unfold skipI
  split
  · rename_i h3
    rw [beq_iff_eq] at h3
    have := hf.2.2.2.2.2.2.2.2.1 h3
    omega
  · rename_i h3
    rw [beq_iff_eq] at h3
    have := hf.2.2.2.2.2.2.2.2.2 (by omega)
    split <;> omega

theorem wordN_lt (c : CL) (hc : ClOk c) (i : Nat) : wordN c i < 4294967296 := by
  obtain ⟨h1, h2, h3, h4, h5, h6⟩ := hc
  match i with
  | 0 => exact h2
  | 1 => exact h1
  | 2 => exact Nat.mod_lt _ (by decide)
  | 3 => simp only [wordN]; omega
  | 4 => exact Nat.mod_lt _ (by decide)
  | 5 => simp only [wordN]; omega
  | 6 => exact Nat.mod_lt _ (by decide)
  | 7 => simp only [wordN]; omega
  | 8 => exact Nat.mod_lt _ (by decide)
  | 9 => simp only [wordN]; omega
  | n + 10 => exact Nat.zero_lt_succ _

/-- A call lies in block g. -/
structure CallAt (W : World) (g : Nat) (c : CL) : Prop where
  k0 : W.cell? ⟨g, 0, none⟩ = some (.int .u32 c.arch)
  k1 : W.cell? ⟨g, 1, none⟩ = some (.int .u32 c.nr)
  k2 : W.cell? ⟨g, 2, none⟩ = some (.int .u64 c.a0)
  k3 : W.cell? ⟨g, 3, none⟩ = some (.int .u64 c.a1)
  k4 : W.cell? ⟨g, 4, none⟩ = some (.int .u64 c.a2)
  k5 : W.cell? ⟨g, 5, none⟩ = some (.int .u64 c.a3)
theorem CallAt.on {W V : World} {g : Nat} {c : CL} (h : CallAt W g c) (hc : ∀ j, V.cell? ⟨g, j, none⟩ = W.cell? ⟨g, j, none⟩) : CallAt V g c :=
  ⟨(hc _).trans h.k0, (hc _).trans h.k1, (hc _).trans h.k2, (hc _).trans h.k3, (hc _).trans h.k4, (hc _).trans h.k5⟩
theorem call_boxed (W : World) (c : CL) : CallAt (W.alloc (.cells #[.int .u32 c.arch, .int .u32 c.nr, .int .u64 c.a0, .int .u64 c.a1, .int .u64 c.a2, .int .u64 c.a3] 53)) W.heap.size c := by
  have h := fun i => cell_of_row (W.alloc (.cells #[.int .u32 c.arch, .int .u32 c.nr, .int .u64 c.a0, .int .u64 c.a1, .int .u64 c.a2, .int .u64 c.a3] 53)) W.heap.size i _ _ _ (heap_alloc_new W _)
  exact ⟨h 0, h 1, h 2, h 3, h 4, h 5⟩

theorem run_bad (oa : Option Addr) (n cap : Nat) (hn : n ≤ 9223372036854775807) (L : Nat → IN) (c : CL) (w : World) (h : IsProg oa n L w) (hf : checkR n L ≠ 0) :
    Calls Try.prog 15 #[.slice oa n cap, callV c] w fun e w' => e = .returned (.tuple #[.int .u32 0, .int .i64 0, errV (checkR n L)]) ∧ Below w.heap.size w w' := by
  unfold callV
  obtain ⟨W0, hW0⟩ : ∃ W0, W0 = w.alloc (.cells #[.int .u32 c.arch, .int .u32 c.nr, .int .u64 c.a0, .int .u64 c.a1, .int .u64 c.a2, .int .u64 c.a3] 53) := ⟨_, rfl⟩
  have hb0 : Below w.heap.size w W0 := by rw [hW0]; exact box_below _ _
  have HC := check_any oa n cap hn L W0 (h.on hb0)
  rw [errV_pos hf] at HC ⊢
  have HW := hide hW0
  rw [hW0] at HC
  clear hW0 h
  go_enter Try.func15, Try.ntmps15
  go_wp2_with (go_at_call 14; refine HC.mono ?_; rintro e w' ⟨rfl, hb⟩)
  go_ret3
  exact ⟨rfl, below_next (by rw [← HW.out]; exact hb0) hb⟩

set_option maxHeartbeats 2000000 in
theorem run_ok (oa : Option Addr) (n cap : Nat) (L : Nat → IN) (c : CL) (hc : ClOk c) (w : World) (h : IsProg oa n L w) (hf : checkR n L = 0) :
    Calls Try.prog 15 #[.slice oa n cap, callV c] w fun e w' => e = .returned (.tuple #[.int .u32 (runR L c n 0 0 0).1, .int .i64 (runR L c n 0 0 0).2, .nilIface]) ∧ Below w.heap.size w w' := by
  have HF := hide (fit_of hf)
  have hpos := HF.out.pos
  have hmost := HF.out.most
  unfold callV
  obtain ⟨W0, hW0⟩ : ∃ W0, W0 = w.alloc (.cells #[.int .u32 c.arch, .int .u32 c.nr, .int .u64 c.a0, .int .u64 c.a1, .int .u64 c.a2, .int .u64 c.a3] 53) := ⟨_, rfl⟩
  have hb0 : Below w.heap.size w W0 := by rw [hW0]; exact box_below _ _
  have hC0 : CallAt W0 w.heap.size c := by rw [hW0]; exact call_boxed w c
  have hg0 : w.heap.size < W0.heap.size := by rw [hW0]; simp
  have HC := check_any oa n cap (by omega) L W0 (h.on hb0)
  rw [hf, errV_zero] at HC
  rw [hW0] at HC
  obtain ⟨b, off, rfl, hb, hA0⟩ := h.lie hpos
  have HA := hide (show ∀ i, i < n → InsAt W0 b (off + i * 4) (L i) from fun i hi => (hA0 i hi).on fun j => (bcell hb0).1 b j hb)
  obtain ⟨g, hg⟩ : ∃ g, g = w.heap.size := ⟨_, rfl⟩
  rw [← hg] at hb hb0 hC0 hg0
  obtain ⟨R, hR⟩ : ∃ R, R = runR L c n 0 0 0 := ⟨_, rfl⟩
  rw [← hR]
  replace hR := hide hR
  have HW := hide hW0
  have HCL := hide hC0
  have HB0 := hide hb0
  clear hW0 h hA0 hf hC0 hb0
  go_enter Try.func15, Try.ntmps15
  go_wp2_with (go_at_call 14; refine HC.mono ?_; rintro e w1 ⟨rfl, hb1⟩)
  rw [← hg]
  rw [← HW.out] at hb1
  replace hb1 := hide hb1
  clear HC
  replace hg := hide hg
  go_loopw [8, 9, 21] (fun N P I w' => ∃ d p x : Nat, d ≤ n ∧ N = .int .u32 x ∧ P = .int .i64 p ∧ I = .int .i64 d ∧ p < n ∧ Hid (x < 4294967296) ∧ Hid (d ≤ p) ∧ Hid (runR L c (n - d) p x d = R) ∧ Hid (Below W0.heap.size W0 w')) (fun _ _ I _ => n - (intOf I).toNat)
  case atStart => exact ⟨0, 0, 0, by omega, rfl, rfl, rfl, hpos, hide (by decide), hide (Nat.le_refl _), hide hR.out.symm, hb1⟩
  case round =>
    obtain ⟨d, p, x, hd, rfl, rfl, rfl, hp, HX, HD, HR, HB⟩ := hrel
    have hdn : d < n := by have := HD.out; omega
    have hI := (HA.out p hp).on fun j => (bcell HB.out).1 b j (by omega)
    have hCa := HCL.out.on fun j => (bcell HB.out).1 g j hg0
    have HN := hide (fun h8 => HF.out.next hp h8)
    have HS := hide (fun h8 h1 h2 => HF.out.skip hp h8 h1 h2 x)
    have HE := hide (fine_ins (HF.out.each p hp))
    have hgw : g < wr.heap.size := Nat.lt_of_lt_of_le hg0 HB.out.size
    have hok := hI.ok
    have hRR := HR.out
    rw [show n - d = (n - d - 1) + 1 by omega, runR, show n - d - 1 = n - (d + 1) by omega] at hRR
    obtain ⟨y, hy⟩ : ∃ y, y = L p := ⟨_, rfl⟩
    rw [← hy] at hI HN HS HE hok hRR
    clear hy HR
    obtain ⟨c0, c1, c2, c3, _⟩ := hI
    obtain ⟨q0, q1, q2, q3, q4, q5⟩ := hCa
    by_cases h8 : y.op = 8
    · rw [if_pos h8] at hRR
      replace hRR := hide hRR
      obtain ⟨op, jt, jf, k⟩ := y
      simp only at h8 c0 c1 c2 c3
      subst h8
      clear HN HS HE hok q0 q1 q2 q3 q4 q5
      go_wp2
      go_ret3
      exact ⟨by rw [← hRR.out]; rfl, (by rw [← hg.out]; exact HB0.out.trans ((HB.out.trans ((box_below wr _).mono HB.out.size)).mono (Nat.le_of_lt hg0)))⟩
    by_cases h1 : y.op = 1
    · rw [if_neg h8, if_pos h1] at hRR
      replace hRR := hide hRR
      have HWd := word_ok c hc y.k (HE.out.2.2.2.2.2.2.2.1 h1)
      have hnx := HN.out h8
      obtain ⟨op, jt, jf, k⟩ := y
      simp only at h1 c0 c1 c2 c3 HWd
      subst h1
      unfold callV at HWd
      clear HN HS HE h8 hok
      go_wp2_with (go_at_call 25; refine (HWd _).mono ?_; rintro e w2 ⟨rfl, hb2⟩)
      go_round
      case rel => exact ⟨d + 1, p + 1, _, by omega, rfl, by go_num, by go_num, hnx, hide (wordN_lt c hc _), hide (by have := HD.out; omega), hRR, hide (below_next (below_next HB.out (box_below wr _)) hb2)⟩
      case measure => simp [intOf]; omega
    by_cases h2 : y.op = 2
    · rw [if_neg h8, if_neg h1, if_pos h2] at hRR
      replace hRR := hide hRR
      have hnx := HN.out h8
      have hbit := u32_and_nat x y.k HX.out hok.k2
      obtain ⟨op, jt, jf, k⟩ := y
      simp only at h2 c0 c1 c2 c3 hbit
      subst h2
      have HL := hide (show x &&& k < 4294967296 from Nat.lt_of_le_of_lt Nat.and_le_left HX.out)
      clear HN HS HE h8 h1 hok q0 q1 q2 q3 q4 q5
      go_wp2
      go_round
      case rel => exact ⟨d + 1, p + 1, _, by omega, rfl, by go_num, by go_num, hnx, HL, hide (by have := HD.out; omega), hRR, hide (below_next HB.out (box_below wr _))⟩
      case measure => simp [intOf]; omega
    · rw [if_neg h8, if_neg h1, if_neg h2] at hRR
      replace hRR := hide hRR
      obtain ⟨hs0, hs1⟩ := HS.out h8 h1 h2
      have HSk := skip_any y hok x HX.out
      obtain ⟨sk, hsk⟩ : ∃ sk, sk = (skipI y x).toNat := ⟨_, rfl⟩
      rw [← hsk] at hs1
      rw [show skipI y x = (sk : Int) by omega] at HSk
      replace hRR := hide (by have := hRR.out; rw [← hsk] at this; exact this)
      obtain ⟨op, jt, jf, k⟩ := y
      simp only at h8 h1 h2 c0 c1 c2 c3 HSk
      unfold insV at HSk
      simp only at HSk
      clear HN HS HE hok q0 q1 q2 q3 q4 q5 hs0 hsk
      have d8 : (op == 8) = false := by rw [beq_eq_false_iff_ne]; exact h8
      have d1 : (op == 1) = false := by rw [beq_eq_false_iff_ne]; exact h1
      have d2 : (op == 2) = false := by rw [beq_eq_false_iff_ne]; exact h2
      clear h8 h1 h2
      go_wp2_with (go_at_call 26; refine (HSk _).mono ?_; rintro e w2 ⟨rfl, hb2⟩)
      go_round
      case rel => exact ⟨d + 1, p + 1 + sk, x, by omega, rfl, by go_num, by go_num, hs1, HX, hide (by have := HD.out; omega), hRR, hide (below_next (below_next HB.out (box_below wr _)) hb2)⟩
      case measure => simp [intOf]; omega
end Go.Proofs.Ytphkhfeofoadcab.Bp

/- The walk of the law TopBpf. -/
namespace Go.Proofs.Ytphkhfeofoadcab.Bp
open Go.RowKit

/-- A program that is right ends at one of its Rets, in no more steps than are left. -/
theorem run_ends {n : Nat} {L : Nat → IN} (h : Fit n L) (c : CL) : ∀ f p x d, p < n → n - p ≤ f → (∃ i, i < n ∧ (L i).op = 8 ∧ (L i).k = (runR L c f p x d).1) ∧ d + 1 ≤ (runR L c f p x d).2 ∧ (runR L c f p x d).2 ≤ d + (n - p)
  | 0, p, x, d, hp, hf => by omega
  | f + 1, p, x, d, hp, hf => by
    rw [runR]
    by_cases h8 : (L p).op = 8
    · rw [if_pos h8]
      exact ⟨⟨p, hp, h8, rfl⟩, Nat.le_refl _, by show d + 1 ≤ _; omega⟩
    rw [if_neg h8]
    have hk := h.next hp h8
    by_cases h1 : (L p).op = 1
    · rw [if_pos h1]
      obtain ⟨a, b, e⟩ := run_ends h c f (p + 1) (wordN c ((L p).k / 4)) (d + 1) hk (by omega)
      exact ⟨a, by omega, by omega⟩
    rw [if_neg h1]
    by_cases h2 : (L p).op = 2
    · rw [if_pos h2]
      obtain ⟨a, b, e⟩ := run_ends h c f (p + 1) (x &&& (L p).k) (d + 1) hk (by omega)
      exact ⟨a, by omega, by omega⟩
    rw [if_neg h2]
    obtain ⟨_, hs⟩ := h.skip hp h8 h1 h2 x
    obtain ⟨a, b, e⟩ := run_ends h c f (p + 1 + (skipI (L p) x).toNat) x (d + 1) hs (by omega)
    exact ⟨a, by omega, by omega⟩

/-- Is one of the first i a Ret that has k? -/
def foundTo (L : Nat → IN) (k : Nat) : Nat → Bool
  | 0 => false
  | i + 1 => foundTo L k i || ((L i).op == 8 && ((L i).k : Int) == (k : Int))
theorem foundTo_of {L : Nat → IN} {k i : Nat} (h8 : (L i).op = 8) (hk : (L i).k = k) : ∀ n, i < n → foundTo L k n = true
  | n + 1, hn => by
    rw [foundTo]
    by_cases h : i = n
    · subst h; simp [h8, hk]
    · rw [foundTo_of h8 hk n (by omega)]; rfl

end Go.Proofs.Ytphkhfeofoadcab.Bp

/- Policies as programs: the program of a policy, that it is right, and what it returns. -/
namespace Go.Proofs.Ytphkhfeofoadcab
open Bp (IN CL InOk runR wordN faultI faultTo checkR placeB skipI holdsB)

def toCL (k : KL) : CL := ⟨k.arch, k.nr, k.a0, k.a1, k.a2, k.a3⟩
def halfN (n h : Nat) : Nat := if h = 0 then n % 4294967296 else n / 4294967296
/-- The branch that a cond needs, and whether the cond holds where it does not. -/
def brOp (op : Int) : Int := if op = 1 ∨ op = 2 ∨ op = 7 then 4 else if op = 3 ∨ op = 6 then 6 else 5
def brTurn (op : Int) : Bool := op == 2 || op == 3 || op == 4
def loadP (c : CD) (h : Nat) : List IN := ⟨1, 0, 0, 8 + (2 * c.arg.toNat + h) * 4⟩ :: if c.op = 7 then [⟨2, 0, 0, halfN c.m h⟩] else []
def yesN (c : CD) (over : Nat) : Nat := if brTurn c.op then over else 0
def noN (c : CD) (over : Nat) : Nat := if brTurn c.op then 0 else over
def lowP (c : CD) (over : Nat) : List IN := loadP c 0 ++ [⟨brOp c.op, (yesN c over : Nat), (noN c over : Nat), halfN c.v 0⟩]
def gtP (c : CD) (over : Nat) : List IN := if brOp c.op = 4 then [] else [⟨5, (1 + (lowP c over).length + yesN c over : Nat), 0, halfN c.v 1⟩]
def highP (c : CD) (over : Nat) : List IN := loadP c 1 ++ (gtP c over ++ [⟨4, 0, ((lowP c over).length + noN c over : Nat), halfN c.v 1⟩])
def condP (c : CD) (over : Nat) : List IN := highP c over ++ lowP c over
def condsP (K : Nat) : List CD → List IN
  | [] => [⟨8, 0, 0, K⟩]
  | c :: r => if numB c then condP c (condsP K r).length ++ condsP K r else condsP K r
def actN (a : ACT) : Nat := if a.kind = 1 then 2147418112 else if a.kind = 2 then 327680 + a.errno.toNat else 0
def ruleN (r : RL) (i : Nat) : Nat := if deepB r then 2146435072 + i else actN r.act
def ruleP (r : RL) (i : Nat) : List IN := ⟨1, 0, 0, 0⟩ :: ⟨4, 0, ((condsP (ruleN r i) r.conds).length : Nat), r.nr.toNat⟩ :: condsP (ruleN r i) r.conds
def rulesP : List RL → Nat → List IN
  | [], _ => []
  | r :: t, i => ruleP r i ++ rulesP t (i + 1)
def progP (p : POL) : List IN := ⟨1, 0, 0, 4⟩ :: ⟨4, 1, 0, 3221225534⟩ :: ⟨8, 0, 0, 0⟩ :: (rulesP p.rules 0 ++ [⟨8, 0, 0, actN p.els⟩])
/-- Which verdict a number is. -/
def verdictR (n : Nat) : Option (ACT × Nat) :=
  if n = 2147418112 then some (⟨1, 0⟩, 0) else if n = 0 then some (⟨3, 0⟩, 0) else if 327680 < n ∧ n ≤ 327935 then some (⟨2, ((n - 327680 : Nat) : Int)⟩, 0)
  else if 2146435072 ≤ n ∧ n < 2146435084 then some (⟨4, 0⟩, n - 2146435072) else none

/-- From this list on, the number being x, k is returned. -/
inductive Runs (c : CL) : List IN → Nat → Nat → Prop
  | ret (jt jf : Int) (k : Nat) (r : List IN) (x : Nat) : Runs c (⟨8, jt, jf, k⟩ :: r) x k
  | load {jt jf : Int} {k : Nat} {r : List IN} {x y : Nat} : Runs c r (wordN c (k / 4)) y → Runs c (⟨1, jt, jf, k⟩ :: r) x y
  | mask {jt jf : Int} {k : Nat} {r : List IN} {x y : Nat} : Runs c r (x &&& k) y → Runs c (⟨2, jt, jf, k⟩ :: r) x y
  | skip {i : IN} {r : List IN} {x y : Nat} (h : 4 ≤ i.op ∧ i.op ≤ 6) : Runs c (r.drop (skipI i x).toNat) x y → Runs c (i :: r) x y

theorem runs_runR {c : CL} {L : Nat → IN} {l : List IN} {x y : Nat} (h : Runs c l x y) : ∀ p f d, (∀ i a, l[i]? = some a → L (p + i) = a) → l.length ≤ f → (runR L c f p x d).1 = y := by
  induction h with
  | ret jt jf k r x =>
    intro p f d hl hf
    obtain ⟨f, rfl⟩ : ∃ g, f = g + 1 := ⟨f - 1, by simp at hf; omega⟩
    have h0 : L p = _ := hl 0 _ rfl
    rw [runR, h0, if_pos rfl]
  | load _ ih =>
    intro p f d hl hf
    obtain ⟨f, rfl⟩ : ∃ g, f = g + 1 := ⟨f - 1, by simp at hf; omega⟩
    have h0 : L p = _ := hl 0 _ rfl
    rw [runR, h0, if_neg (by simp), if_pos rfl]
    exact ih (p + 1) f (d + 1) (fun i a hi => by rw [show p + 1 + i = p + (i + 1) by omega]; exact hl (i + 1) a hi) (by simp at hf; omega)
  | mask _ ih =>
    intro p f d hl hf
    obtain ⟨f, rfl⟩ : ∃ g, f = g + 1 := ⟨f - 1, by simp at hf; omega⟩
    have h0 : L p = _ := hl 0 _ rfl
    rw [runR, h0, if_neg (by simp), if_neg (by simp), if_pos rfl]
    exact ih (p + 1) f (d + 1) (fun i a hi => by rw [show p + 1 + i = p + (i + 1) by omega]; exact hl (i + 1) a hi) (by simp at hf; omega)
  | @skip i r x y hop _ ih =>
    intro p f d hl hf
    obtain ⟨f, rfl⟩ : ∃ g, f = g + 1 := ⟨f - 1, by simp at hf; omega⟩
    have h0 : L p = _ := hl 0 _ rfl
    rw [runR, h0, if_neg (by omega), if_neg (by omega), if_neg (by omega)]
    refine ih _ f (d + 1) (fun j a hj => ?_) (by rw [List.length_drop]; simp at hf; omega)
    rw [List.getElem?_drop] at hj
    rw [show p + 1 + (skipI i x).toNat + j = p + ((skipI i x).toNat + j + 1) by omega]
    exact hl _ a (by simpa using hj)

theorem runs_eq {c : CL} {jt jf k x y : Nat} {r : List IN} (h : Runs c (r.drop (if x = k then jt else jf)) x y) : Runs c (⟨4, (jt : Nat), (jf : Nat), k⟩ :: r) x y := by
  refine .skip ⟨by simp, by simp⟩ ?_
  have e : skipI ⟨4, (jt : Nat), (jf : Nat), k⟩ x = ((if x = k then jt else jf : Nat) : Int) := by
    unfold skipI holdsB
    by_cases hx : x = k <;> simp [hx]
    omega
  rw [e, Int.toNat_natCast]
  exact h
theorem runs_gt {c : CL} {jt jf k x y : Nat} {r : List IN} (h : Runs c (r.drop (if k < x then jt else jf)) x y) : Runs c (⟨5, (jt : Nat), (jf : Nat), k⟩ :: r) x y := by
  refine .skip ⟨by simp, by simp⟩ ?_
  have e : skipI ⟨5, (jt : Nat), (jf : Nat), k⟩ x = ((if k < x then jt else jf : Nat) : Int) := by
    unfold skipI holdsB
    by_cases hx : k < x <;> simp [hx]
  rw [e, Int.toNat_natCast]
  exact h
theorem runs_ge {c : CL} {jt jf k x y : Nat} {r : List IN} (h : Runs c (r.drop (if k ≤ x then jt else jf)) x y) : Runs c (⟨6, (jt : Nat), (jf : Nat), k⟩ :: r) x y := by
  refine .skip ⟨by simp, by simp⟩ ?_
  have e : skipI ⟨6, (jt : Nat), (jf : Nat), k⟩ x = ((if k ≤ x then jt else jf : Nat) : Int) := by
    unfold skipI holdsB
    by_cases hx : k ≤ x <;> simp [hx]
  rw [e, Int.toNat_natCast]
  exact h

theorem word_half (k : KL) (a h : Nat) (ha : a ≤ 3) (hh : h ≤ 1) : wordN (toCL k) ((8 + (2 * a + h) * 4) / 4) = halfN (regN k a) h := by
  rcases (by omega : a = 0 ∨ a = 1 ∨ a = 2 ∨ a = 3) with rfl | rfl | rfl | rfl <;> rcases (by omega : h = 0 ∨ h = 1) with rfl | rfl <;> rfl

/-- Behind what loads a half. -/
def gotN (c : CD) (x h : Nat) : Nat := if c.op = 7 then halfN x h &&& halfN c.m h else halfN x h
theorem runs_load (k : KL) (c : CD) (h : Nat) (ha : c.arg.toNat ≤ 3) (hh : h ≤ 1) {r : List IN} {x y : Nat} (hr : Runs (toCL k) r (gotN c (regN k c.arg.toNat) h) y) : Runs (toCL k) (loadP c h ++ r) x y := by
  unfold loadP
  refine .load ?_
  rw [word_half k _ h ha hh]
  unfold gotN at hr
  by_cases h7 : c.op = 7
  · rw [if_pos h7] at hr ⊢
    exact .mask hr
  · rw [if_neg h7] at hr ⊢
    exact hr
theorem drop_len {α : Type} (n : Nat) (b : List α) : ∀ a : List α, (a ++ b).drop (a.length + n) = b.drop n
  | [] => by simp
  | x :: a => by rw [List.cons_append, List.length_cons, show a.length + 1 + n = (a.length + n) + 1 by omega, List.drop_succ_cons, drop_len n b a]

/-- Does the branch hold, at the whole number? -/
def brB (c : CD) (x : Nat) : Bool :=
  if brOp c.op = 4 then decide (gotN c x 0 = halfN c.v 0 ∧ gotN c x 1 = halfN c.v 1) else if brOp c.op = 5 then decide (c.v < x) else decide (c.v ≤ x)
theorem brB_holds (c : CD) (x : Nat) (h1 : 1 ≤ c.op) (h7 : c.op ≤ 7) : holdsN c x = (brB c x ^^ brTurn c.op) := by
  obtain ⟨arg, op, v, m, g, n⟩ := c
  simp only at h1 h7
  have hne : ∀ a b : Nat, (a % 4294967296 = b % 4294967296 ∧ a / 4294967296 = b / 4294967296) ↔ a = b := fun a b => by omega
  rcases (by omega : op = 1 ∨ op = 2 ∨ op = 3 ∨ op = 4 ∨ op = 5 ∨ op = 6 ∨ op = 7) with rfl | rfl | rfl | rfl | rfl | rfl | rfl
  · simp [holdsN, brB, brOp, brTurn, gotN, halfN, hne]
    rw [Bool.eq_iff_iff]; simp
  · simp [holdsN, brB, brOp, brTurn, gotN, halfN, hne]
    rfl
  · simp [holdsN, brB, brOp, brTurn]
    rw [Bool.eq_iff_iff]; simp
  · simp [holdsN, brB, brOp, brTurn]
    rw [Bool.eq_iff_iff]; simp
  · simp [holdsN, brB, brOp, brTurn]
  · simp [holdsN, brB, brOp, brTurn]
  · have e1 : (x &&& m) % 4294967296 = x % 4294967296 &&& m % 4294967296 := Nat.and_mod_two_pow (n := 32)
    have e2 : (x &&& m) / 4294967296 = x / 4294967296 &&& m / 4294967296 := Nat.and_div_two_pow (n := 32)
    simp [holdsN, brB, brOp, brTurn, gotN, halfN]
    rw [← e1, ← e2, Bool.eq_iff_iff]
    simp [hne]

theorem brOp_cases (op : Int) : brOp op = 4 ∨ ((brOp op = 5 ∨ brOp op = 6) ∧ op ≠ 7) := by
  unfold brOp
  by_cases h : op = 1 ∨ op = 2 ∨ op = 7
  · rw [if_pos h]; exact .inl rfl
  · rw [if_neg h]
    by_cases h2 : op = 3 ∨ op = 6
    · rw [if_pos h2]; exact .inr ⟨.inr rfl, by omega⟩
    · rw [if_neg h2]; exact .inr ⟨.inl rfl, by omega⟩
/-- A cond's instructions: they go on behind themselves if it holds, and else pass over so many more. -/
theorem runs_cond (k : KL) (c : CD) (over : Nat) (ha : c.arg.toNat ≤ 3) (h1 : 1 ≤ c.op) (h7 : c.op ≤ 7) {r : List IN} {y : Nat}
    (h : ∀ z, Runs (toCL k) (r.drop (if holdsN c (regN k c.arg.toNat) then 0 else over)) z y) (x : Nat) : Runs (toCL k) (condP c over ++ r) x y := by
  have hd : (if holdsN c (regN k c.arg.toNat) then 0 else over) = if brB c (regN k c.arg.toNat) then yesN c over else noN c over := by
    rw [brB_holds c _ h1 h7]
    unfold yesN noN
    cases brB c (regN k c.arg.toNat) <;> cases brTurn c.op <;> rfl
  rw [hd] at h
  clear hd
  have hlow : gotN c (regN k c.arg.toNat) 1 = halfN c.v 1 → ∀ z, Runs (toCL k) (lowP c over ++ r) z y := fun e z => by
    unfold lowP
    rw [List.append_assoc]
    refine runs_load k c 0 ha (by decide) ?_
    rcases brOp_cases c.op with h4 | ⟨h4 | h4, h7⟩
    · rw [h4]
      refine runs_eq ?_
      have hh := h (gotN c (regN k c.arg.toNat) 0)
      unfold brB at hh
      rw [if_pos h4] at hh
      simpa [e] using hh
    · rw [h4]
      refine runs_gt ?_
      have hh := h (gotN c (regN k c.arg.toNat) 0)
      have g0 : gotN c (regN k c.arg.toNat) 0 = regN k c.arg.toNat % 4294967296 := by unfold gotN halfN; rw [if_neg h7, if_pos rfl]
      have g1 : gotN c (regN k c.arg.toNat) 1 = regN k c.arg.toNat / 4294967296 := by unfold gotN halfN; rw [if_neg h7, if_neg (by decide)]
      have v0 : halfN c.v 0 = c.v % 4294967296 := by unfold halfN; rw [if_pos rfl]
      have v1 : halfN c.v 1 = c.v / 4294967296 := by unfold halfN; rw [if_neg (by decide)]
      rw [g1, v1] at e
      have hb : brB c (regN k c.arg.toNat) = decide (halfN c.v 0 < gotN c (regN k c.arg.toNat) 0) := by
        rw [g0, v0]
        unfold brB
        rw [if_neg (by omega), if_pos h4]
        rw [decide_eq_decide]
        omega
      rw [hb] at hh
      simpa using hh
    · rw [h4]
      refine runs_ge ?_
      have hh := h (gotN c (regN k c.arg.toNat) 0)
      have g0 : gotN c (regN k c.arg.toNat) 0 = regN k c.arg.toNat % 4294967296 := by unfold gotN halfN; rw [if_neg h7, if_pos rfl]
      have g1 : gotN c (regN k c.arg.toNat) 1 = regN k c.arg.toNat / 4294967296 := by unfold gotN halfN; rw [if_neg h7, if_neg (by decide)]
      have v0 : halfN c.v 0 = c.v % 4294967296 := by unfold halfN; rw [if_pos rfl]
      have v1 : halfN c.v 1 = c.v / 4294967296 := by unfold halfN; rw [if_neg (by decide)]
      rw [g1, v1] at e
      have hb : brB c (regN k c.arg.toNat) = decide (halfN c.v 0 ≤ gotN c (regN k c.arg.toNat) 0) := by
        rw [g0, v0]
        unfold brB
        rw [if_neg (by omega), if_neg (by omega)]
        rw [decide_eq_decide]
        omega
      rw [hb] at hh
      simpa using hh
  have heq : (gotN c (regN k c.arg.toNat) 1 ≠ halfN c.v 1 → brB c (regN k c.arg.toNat) = false) → Runs (toCL k) (⟨4, 0, ((lowP c over).length + noN c over : Nat), halfN c.v 1⟩ :: (lowP c over ++ r)) (gotN c (regN k c.arg.toNat) 1) y := fun hb => by
    refine runs_eq (jt := 0) ?_
    by_cases e : gotN c (regN k c.arg.toNat) 1 = halfN c.v 1
    · rw [if_pos e]
      exact hlow e _
    · rw [if_neg e, drop_len]
      have hh := h (gotN c (regN k c.arg.toNat) 1)
      rw [hb e] at hh
      exact hh
  unfold condP highP
  rw [List.append_assoc, List.append_assoc]
  refine runs_load k c 1 ha (by decide) ?_
  unfold gtP
  rcases brOp_cases c.op with h4 | ⟨h4, h7⟩
  · rw [if_pos h4]
    refine heq fun e => ?_
    unfold brB
    rw [if_pos h4]
    simp [e]
  · rw [if_neg (by omega)]
    refine runs_gt (jf := 0) ?_
    have hg : gotN c (regN k c.arg.toNat) 1 = regN k c.arg.toNat / 4294967296 := by unfold gotN halfN; rw [if_neg h7, if_neg (by decide)]
    have hv : halfN c.v 1 = c.v / 4294967296 := by unfold halfN; rw [if_neg (by decide)]
    have hb : brB c (regN k c.arg.toNat) = (if brOp c.op = 5 then decide (c.v < regN k c.arg.toNat) else decide (c.v ≤ regN k c.arg.toNat)) := by unfold brB; rw [if_neg (by omega)]
    by_cases hgt : halfN c.v 1 < gotN c (regN k c.arg.toNat) 1
    · rw [if_pos hgt, show 1 + (lowP c over).length + yesN c over = ((lowP c over).length + yesN c over) + 1 by omega]
      have hh := h (gotN c (regN k c.arg.toNat) 1)
      have hbt : brB c (regN k c.arg.toNat) = true := by
        rw [hg, hv] at hgt
        rw [hb]
        split <;> simp <;> omega
      rw [hbt, if_pos rfl] at hh
      simpa [drop_len] using hh
    · rw [if_neg hgt]
      refine heq fun e => ?_
      rw [hg, hv] at hgt e
      rw [hb]
      split <;> simp <;> omega

/-- A rule's conds and its Ret. -/
theorem runs_conds (k : KL) (K : Nat) {r : List IN} {y : Nat} : ∀ cs : List CD, (∀ c ∈ cs, c.arg.toNat ≤ 3 ∧ 1 ≤ c.op ∧ c.op ≤ 9) → (cs.all (regB k) = true → K = y) → (cs.all (regB k) = false → ∀ z, Runs (toCL k) r z y) → ∀ x, Runs (toCL k) (condsP K cs ++ r) x y
  | [], _, h1, _, x => by
    rw [← h1 rfl]
    exact .ret _ _ _ _ _
  | c :: cs, hc, h1, h2, x => by
    obtain ⟨ha, ho1, ho9⟩ := hc c (by simp)
    rw [condsP]
    by_cases hn : numB c = true
    · rw [if_pos hn, List.append_assoc]
      have h7 : c.op ≤ 7 := by
        unfold numB kindOp at hn
        by_cases e8 : c.op = 8
        · rw [if_pos e8] at hn; simp at hn
        · by_cases e9 : c.op = 9
          · rw [if_neg e8, if_pos e9] at hn; simp at hn
          · omega
      have hreg : regB k c = holdsN c (regN k c.arg.toNat) := by unfold regB; rw [hn]; rfl
      refine runs_cond k c _ ha ho1 h7 (fun z => ?_) x
      cases hh : holdsN c (regN k c.arg.toNat) with
      | true =>
        rw [if_pos rfl, List.drop_zero]
        refine runs_conds k K cs (fun d hd => hc d (by simp [hd])) (fun e => h1 ?_) (fun e => h2 ?_) z
        · rw [List.all_cons, hreg, hh, e]; rfl
        · rw [List.all_cons, hreg, hh, e]; rfl
      | false =>
        rw [if_neg (by decide)]
        have := drop_len 0 r (condsP K cs)
        rw [Nat.add_zero, List.drop_zero] at this
        rw [this]
        exact h2 (by rw [List.all_cons, hreg, hh]; rfl) z
    · rw [if_neg hn]
      have hreg : regB k c = true := by unfold regB; simp [hn]
      exact runs_conds k K cs (fun d hd => hc d (by simp [hd])) (fun e => h1 (by rw [List.all_cons, hreg, e]; rfl)) (fun e => h2 (by rw [List.all_cons, hreg, e]; rfl)) x

structure RuleFine (r : RL) : Prop where
  nr : 0 ≤ r.nr
  conds : ∀ c ∈ r.conds, c.arg.toNat ≤ 3 ∧ 1 ≤ c.op ∧ c.op ≤ 9
theorem runs_rule (k : KL) (a : RL) (ha : RuleFine a) (i : Nat) {r : List IN} {y : Nat} (h1 : fitsB a k = true → ruleN a i = y) (h2 : fitsB a k = false → ∀ z, Runs (toCL k) r z y) (x : Nat) : Runs (toCL k) (ruleP a i ++ r) x y := by
  unfold ruleP
  refine .load (Runs.skip ⟨by simp, by simp⟩ ?_)
  show Runs (toCL k) (List.drop (skipI ⟨4, 0, ((condsP (ruleN a i) a.conds).length : Nat), a.nr.toNat⟩ k.nr).toNat (condsP (ruleN a i) a.conds ++ r)) k.nr y
  have hn := ha.nr
  have e : skipI ⟨4, 0, ((condsP (ruleN a i) a.conds).length : Nat), a.nr.toNat⟩ k.nr = ((if k.nr = a.nr.toNat then 0 else (condsP (ruleN a i) a.conds).length : Nat) : Int) := by
    unfold skipI holdsB
    by_cases hx : k.nr = a.nr.toNat
    · simp [hx]
    · simp [hx]; omega
  rw [e, Int.toNat_natCast]
  by_cases hx : k.nr = a.nr.toNat
  · rw [if_pos hx, List.drop_zero]
    have hf : fitsB a k = a.conds.all (regB k) := by unfold fitsB; rw [show decide ((k.nr : Int) = a.nr) = true by simp; omega]; rfl
    rw [hf] at h1 h2
    exact runs_conds k _ a.conds ha.conds h1 h2 _
  · rw [if_neg hx]
    have := drop_len 0 r (condsP (ruleN a i) a.conds)
    rw [Nat.add_zero, List.drop_zero] at this
    rw [this]
    refine h2 ?_ _
    unfold fitsB
    rw [show decide ((k.nr : Int) = a.nr) = false by simp; omega]
    rfl

/-- The number of what is told from rule i on. -/
def numFrom (k : KL) (els : ACT) : List RL → Nat → Nat
  | [], _ => actN els
  | r :: t, i => if fitsB r k then ruleN r i else numFrom k els t (i + 1)
theorem runs_rules (k : KL) (els : ACT) : ∀ (rs : List RL) (i : Nat), (∀ r ∈ rs, RuleFine r) → ∀ x, Runs (toCL k) (rulesP rs i ++ [⟨8, 0, 0, actN els⟩]) x (numFrom k els rs i)
  | [], _, _, _ => .ret _ _ _ _ _
  | r :: t, i, h, x => by
    rw [rulesP, List.append_assoc, numFrom]
    refine runs_rule k r (h r (by simp)) i (fun e => by rw [if_pos e]) (fun e z => ?_) x
    rw [if_neg (by rw [e]; decide)]
    exact runs_rules k els t (i + 1) (fun q hq => h q (by simp [hq])) z
def numP (p : POL) (k : KL) : Nat := if k.arch = 3221225534 then numFrom k p.els p.rules 0 else 0
theorem runs_prog (p : POL) (k : KL) (h : ∀ r ∈ p.rules, RuleFine r) : Runs (toCL k) (progP p) 0 (numP p k) := by
  unfold progP
  refine .load (runs_eq (jt := 1) (jf := 0) ?_)
  show Runs (toCL k) (List.drop (if k.arch = 3221225534 then 1 else 0) _) k.arch _
  unfold numP
  by_cases ha : k.arch = 3221225534
  · rw [if_pos ha, if_pos ha]
    exact runs_rules k p.els p.rules 0 h _
  · rw [if_neg ha, if_neg ha]
    exact .ret _ _ _ _ _

structure ActFine (a : ACT) : Prop where
  ok : (a.kind = 1 ∧ a.errno = 0) ∨ (a.kind = 3 ∧ a.errno = 0) ∨ (a.kind = 2 ∧ 1 ≤ a.errno ∧ a.errno ≤ 255)
theorem verdict_act {a : ACT} (h : ActFine a) : verdictR (actN a) = some (a, 0) := by
  obtain ⟨kd, en⟩ := a
  rcases h.ok with ⟨h1, h2⟩ | ⟨h1, h2⟩ | ⟨h1, h2, h3⟩
  · simp only at h1 h2; subst h1 h2; rfl
  · simp only at h1 h2; subst h1 h2; rfl
  · simp only at h1 h2 h3
    subst h1
    have e : actN ⟨2, en⟩ = 327680 + en.toNat := rfl
    rw [e]
    unfold verdictR
    rw [if_neg (by omega), if_neg (by omega), if_pos (by omega)]
    congr 3
    omega
theorem verdict_trace {i : Nat} (h : i < 12) : verdictR (2146435072 + i) = some (⟨4, 0⟩, i) := by
  unfold verdictR
  rw [if_neg (by omega), if_neg (by omega), if_neg (by omega), if_pos (by omega), Nat.add_sub_cancel_left]
theorem num_from (k : KL) (els : ACT) (he : ActFine els) : ∀ (rs : List RL) (i : Nat), (∀ r ∈ rs, ActFine r.act) → i + rs.length ≤ 12 → verdictR (numFrom k els rs i) = some (judgeFrom k els rs i)
  | [], _, _, _ => verdict_act he
  | r :: t, i, h, hl => by
    rw [List.length_cons] at hl
    rw [numFrom, judgeFrom]
    by_cases hf : fitsB r k = true
    · rw [if_pos hf, if_pos hf]
      unfold ruleN
      by_cases hd : deepB r = true
      · rw [if_pos hd, if_pos hd]; exact verdict_trace (by omega)
      · rw [if_neg hd, if_neg hd]; exact verdict_act (h r (by simp))
    · rw [if_neg hf, if_neg hf]
      exact num_from k els he t (i + 1) (fun q hq => h q (by simp [hq])) (by omega)
theorem num_judge (p : POL) (k : KL) (he : ActFine p.els) (hr : ∀ r ∈ p.rules, ActFine r.act) (hl : p.rules.length ≤ 12) : verdictR (numP p k) = some (judgeR p k) := by
  unfold numP judgeR
  by_cases ha : k.arch = 3221225534
  · rw [if_pos ha, if_pos ha]; exact num_from k p.els he p.rules 0 hr (by omega)
  · rw [if_neg ha, if_neg ha]; exact verdict_act (a := ⟨3, 0⟩) ⟨.inr (.inl ⟨rfl, rfl⟩)⟩

/-- Each instruction is right, n being behind the list. -/
def fineL : List IN → Nat → Prop
  | [], _ => True
  | i :: r, n => faultI i (r.length + n) = 0 ∧ fineL r n
theorem fineL_app {b : List IN} {n : Nat} : ∀ {a : List IN}, fineL a (b.length + n) → fineL b n → fineL (a ++ b) n
  | [], _, hb => hb
  | i :: a, h, hb => by
    obtain ⟨h1, h2⟩ := h
    refine ⟨?_, fineL_app h2 hb⟩
    show faultI i ((a ++ b).length + n) = 0
    rw [List.length_append, Nat.add_assoc]
    exact h1
theorem fault_load {k n : Nat} (h : placeB k = true) : faultI ⟨1, 0, 0, k⟩ n = 0 := by
  unfold faultI
  rw [if_neg (by simp [Bp.skipB]), if_neg (by simp), if_neg (by simp [h, Bp.branchB])]
theorem fault_and (k n : Nat) : faultI ⟨2, 0, 0, k⟩ n = 0 := by
  unfold faultI
  rw [if_neg (by simp [Bp.skipB]), if_neg (by simp), if_neg (by simp [Bp.branchB])]
theorem fault_ret (k n : Nat) : faultI ⟨8, 0, 0, k⟩ n = 0 := by
  unfold faultI
  rw [if_neg (by simp [Bp.skipB]), if_neg (by simp), if_neg (by simp [Bp.branchB])]
theorem fault_skip {op : Int} {jt jf k n : Nat} (ho : op = 4 ∨ op = 5 ∨ op = 6) (h1 : jt ≤ 255) (h2 : jf ≤ 255) (h3 : jt < n) (h4 : jf < n) : faultI ⟨op, (jt : Nat), (jf : Nat), k⟩ n = 0 := by
  have hb : Bp.branchB op = true := by unfold Bp.branchB; simp; omega
  have s1 : Bp.skipB (jt : Nat) = true := by unfold Bp.skipB; simp; omega
  have s2 : Bp.skipB (jf : Nat) = true := by unfold Bp.skipB; simp; omega
  unfold faultI
  simp only
  rw [if_neg (by simp [s1, s2]; omega), if_neg (by simp [hb]), if_neg (by simp; omega)]

theorem loadP_len (c : CD) (h : Nat) : (loadP c h).length = if c.op = 7 then 2 else 1 := by unfold loadP; split <;> rfl
theorem lowP_len (c : CD) (o : Nat) : (lowP c o).length = (if c.op = 7 then 3 else 2) := by unfold lowP; rw [List.length_append, loadP_len]; split <;> rfl
theorem condP_len (c : CD) (o : Nat) : (condP c o).length ≤ 6 := by
  unfold condP highP gtP
  rw [List.length_append, List.length_append, List.length_append, loadP_len, lowP_len]
  rcases brOp_cases c.op with h | ⟨h, h7⟩
  · rw [if_pos h]; split <;> simp
  · have h4 : ¬ brOp c.op = 4 := by omega
    rw [if_neg h4, if_neg h7, if_neg h7]; simp
theorem yes_le (c : CD) (o : Nat) : yesN c o ≤ o := by unfold yesN; split <;> omega
theorem no_le (c : CD) (o : Nat) : noN c o ≤ o := by unfold noN; split <;> omega
theorem fine_load (c : CD) (h n : Nat) (ha : c.arg.toNat ≤ 3) (hh : h ≤ 1) : fineL (loadP c h) n := by
  have hp : placeB (8 + (2 * c.arg.toNat + h) * 4) = true := by unfold placeB; simp; omega
  unfold loadP
  split
  · exact ⟨fault_load hp, fault_and _ _, trivial⟩
  · exact ⟨fault_load hp, trivial⟩
theorem fine_cond (c : CD) (over n : Nat) (ha : c.arg.toNat ≤ 3) (ho : over ≤ 200) (hn : over < n) : fineL (condP c over) n := by
  have hy := yes_le c over
  have hnn := no_le c over
  have hl := lowP_len c over
  have hlow : fineL (lowP c over) n := by
    unfold lowP
    refine fineL_app (fine_load c 0 _ ha (by decide)) ⟨?_, trivial⟩
    exact fault_skip (by rcases brOp_cases c.op with h | ⟨h, _⟩ <;> omega) (by omega) (by omega) (by simp; omega) (by simp; omega)
  have hl3 : (lowP c over).length ≤ 3 := by rw [hl]; split <;> omega
  have heq : fineL [⟨4, 0, ((lowP c over).length + noN c over : Nat), halfN c.v 1⟩] ((lowP c over).length + n) :=
    ⟨fault_skip (jt := 0) (.inl rfl) (by omega) (by omega) (by simp; omega) (by simp; omega), trivial⟩
  unfold condP highP
  refine fineL_app (fineL_app (fine_load c 1 _ ha (by decide)) (fineL_app ?_ heq)) hlow
  unfold gtP
  split
  · trivial
  · exact ⟨fault_skip (jf := 0) (.inr (.inl rfl)) (by omega) (by omega) (by simp; omega) (by simp; omega), trivial⟩
theorem condsP_len (K : Nat) : ∀ cs : List CD, (condsP K cs).length ≤ 6 * cs.length + 1
  | [] => by simp [condsP]
  | c :: r => by
    have := condsP_len K r
    have h2 := condP_len c (condsP K r).length
    rw [condsP]
    split
    · rw [List.length_append, List.length_cons]; omega
    · rw [List.length_cons]; omega
theorem fine_conds (K n : Nat) (hn : 0 < n) : ∀ cs : List CD, cs.length ≤ 4 → (∀ c ∈ cs, c.arg.toNat ≤ 3 ∧ 1 ≤ c.op ∧ c.op ≤ 9) → fineL (condsP K cs) n
  | [], _, _ => ⟨fault_ret _ _, trivial⟩
  | c :: r, hl, hc => by
    rw [List.length_cons] at hl
    have ih := fine_conds K n hn r (by omega) (fun d hd => hc d (by simp [hd]))
    have := condsP_len K r
    rw [condsP]
    split
    · exact fineL_app (fine_cond c _ _ (hc c (by simp)).1 (by omega) (by omega)) ih
    · exact ih
theorem fine_rule (r : RL) (i n : Nat) (hn : 0 < n) (hl : r.conds.length ≤ 4) (h : RuleFine r) : fineL (ruleP r i) n := by
  have := condsP_len (ruleN r i) r.conds
  exact ⟨fault_load rfl, fault_skip (jt := 0) (.inl rfl) (by omega) (by omega) (by omega) (by omega), fine_conds _ n hn r.conds hl h.conds⟩
theorem fine_rules (n : Nat) (hn : 0 < n) : ∀ (rs : List RL) (i : Nat), (∀ r ∈ rs, RuleFine r ∧ r.conds.length ≤ 4) → fineL (rulesP rs i) n
  | [], _, _ => trivial
  | r :: t, i, h => fineL_app (fine_rule r i _ (by omega) (h r (by simp)).2 (h r (by simp)).1) (fine_rules n hn t (i + 1) fun q hq => h q (by simp [hq]))
theorem rulesP_len : ∀ (rs : List RL) (i : Nat), (∀ r ∈ rs, r.conds.length ≤ 4) → (rulesP rs i).length ≤ 27 * rs.length
  | [], _, _ => by simp [rulesP]
  | r :: t, i, h => by
    have h1 := rulesP_len t (i + 1) fun q hq => h q (by simp [hq])
    have h2 := condsP_len (ruleN r i) r.conds
    have h3 := h r (by simp)
    rw [rulesP, List.length_append, List.length_cons]
    unfold ruleP
    simp only [List.length_cons]
    omega
theorem fine_prog (p : POL) (h : ∀ r ∈ p.rules, RuleFine r ∧ r.conds.length ≤ 4) : fineL (progP p) 0 := by
  have hr := fineL_app (n := 0) (b := [⟨8, 0, 0, actN p.els⟩]) (fine_rules 1 (by decide) p.rules 0 h) ⟨fault_ret _ _, trivial⟩
  exact ⟨fault_load rfl, fault_skip (jt := 1) (jf := 0) (.inl rfl) (by omega) (by omega) (by simp) (by simp), fault_ret _ _, hr⟩

/-- A list of instructions, by places. -/
def atL (l : List IN) (i : Nat) : IN := l.getD i ⟨0, 0, 0, 0⟩
theorem fineL_each : ∀ {l : List IN} {n i : Nat}, fineL l n → i < l.length → faultI (atL l i) (l.length - 1 - i + n) = 0
  | i :: r, n, 0, h, _ => by
    have := h.1
    rw [List.length_cons, show r.length + 1 - 1 - 0 = r.length by omega]
    exact this
  | a :: r, n, i + 1, h, hi => by
    have hi' : i < r.length := by rw [List.length_cons] at hi; omega
    have := fineL_each (i := i) h.2 hi'
    rw [List.length_cons, show r.length + 1 - 1 - (i + 1) = r.length - 1 - i by omega]
    exact this
theorem faultTo_zero {n : Nat} {L : Nat → IN} : ∀ {j : Nat}, (∀ i, i < j → faultI (L i) (n - 1 - i) = 0) → faultTo n L j = 0
  | 0, _ => rfl
  | j + 1, h => by rw [faultTo, faultTo_zero fun i hi => h i (by omega), if_pos rfl, h j (by omega)]
theorem check_prog (p : POL) (h : ∀ r ∈ p.rules, RuleFine r ∧ r.conds.length ≤ 4) (hl : p.rules.length ≤ 12) : checkR (progP p).length (atL (progP p)) = 0 := by
  have h1 := rulesP_len p.rules 0 fun r hr => (h r hr).2
  have hn : (progP p).length = 3 + (rulesP p.rules 0).length + 1 := by unfold progP; simp; omega
  unfold checkR
  rw [if_neg (by omega), faultTo_zero fun i hi => fineL_each (fine_prog p h) hi, if_pos rfl, if_pos]
  rw [show (progP p).length - 1 = 3 + (rulesP p.rules 0).length by omega]
  unfold atL progP
  rw [List.getD_eq_getElem?_getD, show 3 + (rulesP p.rules 0).length = (rulesP p.rules 0).length + 1 + 1 + 1 by omega, List.getElem?_cons_succ, List.getElem?_cons_succ, List.getElem?_cons_succ, List.getElem?_append_right (Nat.le_refl _), Nat.sub_self]
  rfl
theorem run_prog (p : POL) (k : KL) (h : ∀ r ∈ p.rules, RuleFine r) : (runR (atL (progP p)) (toCL k) (progP p).length 0 0 0).1 = numP p k :=
  runs_runR (runs_prog p k h) 0 _ 0 (fun i a hi => by unfold atL; rw [Nat.zero_add, List.getD_eq_getElem?_getD, hi]; rfl) (Nat.le_refl _)

theorem shape_fine {c : CD} (h : Shape c) : c.arg.toNat ≤ 3 ∧ 1 ≤ c.op ∧ c.op ≤ 9 := by
  cases h <;> simp only [Int.toNat_natCast] <;> omega
theorem act_fine {a : ACT} (h : actF a = 0) : ActFine a := by
  rcases act_cases h with rfl | rfl | ⟨n, h1, h2, rfl⟩
  · exact ⟨.inl ⟨rfl, rfl⟩⟩
  · exact ⟨.inr (.inl ⟨rfl, rfl⟩)⟩
  · exact ⟨.inr (.inr ⟨rfl, by simp only; omega, by simp only; omega⟩)⟩
theorem rule_fine {r : RL} (h : RuleOk r) : RuleFine r := ⟨h.nr0, fun c hc => shape_fine (h.conds c hc)⟩
/-- The program of a policy that is right: it is right, and returns what is told. -/
theorem prog_law {p : POL} (h : PolOk p) (k : KL) : checkR (progP p).length (atL (progP p)) = 0 ∧ verdictR (runR (atL (progP p)) (toCL k) (progP p).length 0 0 0).1 = some (judgeR p k) :=
  ⟨check_prog p (fun r hr => ⟨rule_fine (h.rules r hr), (h.rules r hr).few⟩) h.few, by
    rw [run_prog p k fun r hr => rule_fine (h.rules r hr)]
    exact num_judge p k (act_fine h.els) (fun r hr => act_fine (h.rules r hr).act) h.few⟩
end Go.Proofs.Ytphkhfeofoadcab

/- comp: its small functions. -/
namespace Go.Proofs.Ytphkhfeofoadcab
open Go.RowKit Go.Sort

theorem place_any (a h : Nat) (ha : a ≤ 3) (hh : h ≤ 1) (w : World) : Calls Try.prog 49 #[.int .i64 a, .int .i64 h] w fun e w' => e = .returned (.int .u32 ((8 + (2 * a + h) * 4 : Nat) : Int)) ∧ w' = w := by
  rcases (by omega : a = 0 ∨ a = 1 ∨ a = 2 ∨ a = 3) with rfl | rfl | rfl | rfl <;> rcases (by omega : h = 0 ∨ h = 1) with rfl | rfl
  all_goals
    go_enter Try.func49, Try.ntmps49
    go_wp2
    go_ret
    exact ⟨rfl, rfl⟩
theorem half_any (n h : Nat) (hn : n < 18446744073709551616) (hh : h ≤ 1) (w : World) : Calls Try.prog 43 #[.int .u64 n, .int .i64 h] w fun e w' => e = .returned (.int .u32 (halfN n h : Nat)) ∧ w' = w := by
  rcases (by omega : h = 0 ∨ h = 1) with rfl | rfl
  all_goals
    go_enter Try.func43, Try.ntmps43
    go_wp2
    go_ret
    refine ⟨ret_int ?_, rfl⟩
    simp only [halfN]
    first | rfl | omega | (simp; omega)
set_option maxRecDepth 10000 in
theorem actionNumber_any (a : ACT) (ha : ActFine a) (w : World) : Calls Try.prog 19 #[actV a] w fun e w' => e = .returned (.int .u32 (actN a : Nat)) ∧ Below w.heap.size w w' := by
  obtain ⟨kd, en⟩ := a
  unfold actV
  rcases ha.ok with ⟨h1, h2⟩ | ⟨h1, h2⟩ | ⟨h1, h2, h3⟩
  · simp only at h1 h2
    subst h1 h2
    go_enter Try.func19, Try.ntmps19
    go_wp2
    go_ret
    exact ⟨rfl, box_below _ _⟩
  · simp only at h1 h2
    subst h1 h2
    go_enter Try.func19, Try.ntmps19
    go_wp2
    go_ret
    exact ⟨rfl, box_below _ _⟩
  · simp only at h1 h2 h3
    subst h1
    have HA := hide (show (actN ⟨2, en⟩ : Int) = 327680 + en by show ((327680 + en.toNat : Nat) : Int) = _; omega)
    go_enter Try.func19, Try.ntmps19
    go_wp2
    go_ret
    exact ⟨ret_int HA.out.symm, box_below _ _⟩
end Go.Proofs.Ytphkhfeofoadcab

/- comp.Verdict. -/
namespace Go.Proofs.Ytphkhfeofoadcab
open Go.RowKit Go.Sort

/-- What Verdict hands back. -/
def verdictV (n : Nat) : Value := match verdictR n with
  | some x => .tuple #[verV x, .nilIface]
  | none => .tuple #[verV (⟨0, 0⟩, 0), .iface 63 (.int .i64 3)]

set_option maxRecDepth 100000 in
theorem verdict_any (n : Nat) (hn : n < 4294967296) (w : World) : Calls Try.prog 7 #[.int .u32 n] w fun e w' => e = .returned (verdictV n) ∧ Below w.heap.size w w' := by
  have hres : (w.alloc (.cells #[.int .i64 0, .int .i64 0, .int .i64 0] 31)).heap[w.heap.size]? = some (.cells #[.int .i64 0, .int .i64 0, .int .i64 0] 31 (0, 0)) := heap_alloc_new _ _
  by_cases h1 : n = 2147418112
  · have HV := hide (show verdictV n = .tuple #[.agg (verC ⟨1, 0⟩ 0), .nilIface] by unfold verdictV verdictR; rw [if_pos h1]; rfl)
    have i1 : (n : Int) = 2147418112 := by omega
    clear h1 hn
    go_enter Try.func7, Try.ntmps7
    go_wp2_with (refine wpList_store_row rfl 31 _ _ rfl w.heap.size (verC ⟨1, 0⟩ 0) rfl rfl 31 _ hres size_ver rfl (verC_one _ _) ?_)
    refine bodyPost_ret (v := .tuple #[.agg (verC ⟨1, 0⟩ 0), .nilIface]) (results_ver rfl _ _ w.heap.size (verC ⟨1, 0⟩ 0) _ rfl rfl rfl (setRow_heap _ _ _ _ _ _ hres)) rfl ⟨?_, below_setRow (box_below _ _) (Nat.le_refl _) _⟩
    rw [HV.out]
  have b1 : ((n : Int) == 2147418112) = false := by simp; omega
  by_cases h2 : n = 0
  · have HV := hide (show verdictV n = .tuple #[.agg (verC ⟨3, 0⟩ 0), .nilIface] by unfold verdictV verdictR; rw [if_neg h1, if_pos h2]; rfl)
    subst h2
    clear h1 hn b1
    go_enter Try.func7, Try.ntmps7
    go_wp2_with (refine wpList_store_row rfl 31 _ _ rfl w.heap.size (verC ⟨3, 0⟩ 0) rfl rfl 31 _ hres size_ver rfl (verC_one _ _) ?_)
    refine bodyPost_ret (v := .tuple #[.agg (verC ⟨3, 0⟩ 0), .nilIface]) (results_ver rfl _ _ w.heap.size (verC ⟨3, 0⟩ 0) _ rfl rfl rfl (setRow_heap _ _ _ _ _ _ hres)) rfl ⟨?_, below_setRow (box_below _ _) (Nat.le_refl _) _⟩
    rw [HV.out]
  have b2 : ((n : Int) == 0) = false := by simp; omega
  by_cases h3 : 327680 < n ∧ n ≤ 327935
  · have HV := hide (show verdictV n = .tuple #[.agg (verC ⟨2, ((n - 327680 : Nat) : Int)⟩ 0), .nilIface] by unfold verdictV verdictR; rw [if_neg h1, if_neg h2, if_pos h3]; rfl)
    have i1 : decide ((327680 : Int) < n) = true := by simp; omega
    have i2 : decide ((n : Int) ≤ 327935) = true := by simp; omega
    obtain ⟨m, hm⟩ : ∃ m, m = n - 327680 := ⟨_, rfl⟩
    rw [← hm] at HV
    have hw : IntKind.u32.wrap ((n : Int) - 327680) = m := by rw [IntKind.wrap_u32]; omega
    have hm2 : m ≤ 255 := by omega
    clear h1 h2 h3 hn hm
    go_enter Try.func7, Try.ntmps7
    go_wp2_with (refine wpList_store_row rfl 31 _ _ rfl w.heap.size (verC ⟨2, m⟩ 0) rfl rfl 31 _ hres size_ver rfl (verC_one _ _) ?_)
    refine bodyPost_ret (v := .tuple #[.agg (verC ⟨2, m⟩ 0), .nilIface]) (results_ver rfl _ _ w.heap.size (verC ⟨2, m⟩ 0) _ rfl rfl rfl (setRow_heap _ _ _ _ _ _ hres)) rfl ⟨?_, below_setRow (box_below _ _) (Nat.le_refl _) _⟩
    rw [HV.out]
  by_cases h4 : 2146435072 ≤ n ∧ n < 2146435084
  · have HV := hide (show verdictV n = .tuple #[.agg (verC ⟨4, 0⟩ (n - 2146435072)), .nilIface] by unfold verdictV verdictR; rw [if_neg h1, if_neg h2, if_neg h3, if_pos h4]; rfl)
    have i1 : decide ((327680 : Int) < n) = true := by simp; omega
    have i2 : decide ((n : Int) ≤ 327935) = false := by simp; omega
    have i3 : decide ((2146435072 : Int) ≤ n) = true := by simp; omega
    have i4 : decide ((n : Int) < 2146435084) = true := by simp; omega
    obtain ⟨m, hm⟩ : ∃ m, m = n - 2146435072 := ⟨_, rfl⟩
    rw [← hm] at HV
    have hw : IntKind.u32.wrap ((n : Int) - 2146435072) = m := by rw [IntKind.wrap_u32]; omega
    have hm2 : m ≤ 12 := by omega
    clear h1 h2 h3 h4 hn hm
    go_enter Try.func7, Try.ntmps7
    go_wp2_with (refine wpList_store_row rfl 31 _ _ rfl w.heap.size (verC ⟨4, 0⟩ m) rfl rfl 31 _ hres size_ver rfl (verC_one _ _) ?_)
    refine bodyPost_ret (v := .tuple #[.agg (verC ⟨4, 0⟩ m), .nilIface]) (results_ver rfl _ _ w.heap.size (verC ⟨4, 0⟩ m) _ rfl rfl rfl (setRow_heap _ _ _ _ _ _ hres)) rfl ⟨?_, below_setRow (box_below _ _) (Nat.le_refl _) _⟩
    rw [HV.out]
  have HV := hide (show verdictV n = .tuple #[.agg (verC ⟨0, 0⟩ 0), .iface 63 (.int .i64 3)] by unfold verdictV verdictR; rw [if_neg h1, if_neg h2, if_neg h3, if_neg h4]; rfl)
  obtain ⟨z1, hz1⟩ : ∃ z, z = decide ((327680 : Int) < n) := ⟨_, rfl⟩
  obtain ⟨z2, hz2⟩ : ∃ z, z = decide ((2146435072 : Int) ≤ n) := ⟨_, rfl⟩
  have hz12 : z1 = true → decide ((n : Int) ≤ 327935) = false := fun e => by rw [hz1] at e; simp at e ⊢; omega
  have hz22 : z2 = true → decide ((n : Int) < 2146435084) = false := fun e => by rw [hz2] at e; simp at e ⊢; omega
  replace hz1 := hz1.symm
  replace hz2 := hz2.symm
  clear h1 h2 h3 h4 hn
  cases z1 with
  | true =>
    have j1 := hz12 rfl
    clear hz12
    cases z2 with
    | true =>
      have j2 := hz22 rfl
      clear hz22
      go_enter Try.func7, Try.ntmps7
      go_wp2_with (refine wpList_store_row rfl 31 _ _ rfl w.heap.size (verC ⟨0, 0⟩ 0) rfl rfl 31 _ hres size_ver rfl (verC_one _ _) ?_)
      refine bodyPost_ret (v := .tuple #[.agg (verC ⟨0, 0⟩ 0), .iface 63 (.int .i64 3)]) (results_ver rfl _ _ w.heap.size (verC ⟨0, 0⟩ 0) _ rfl rfl rfl (setRow_heap _ _ _ _ _ _ hres)) rfl ⟨?_, below_setRow (box_below _ _) (Nat.le_refl _) _⟩
      rw [HV.out]
    | false =>
      clear hz22
      go_enter Try.func7, Try.ntmps7
      go_wp2_with (refine wpList_store_row rfl 31 _ _ rfl w.heap.size (verC ⟨0, 0⟩ 0) rfl rfl 31 _ hres size_ver rfl (verC_one _ _) ?_)
      refine bodyPost_ret (v := .tuple #[.agg (verC ⟨0, 0⟩ 0), .iface 63 (.int .i64 3)]) (results_ver rfl _ _ w.heap.size (verC ⟨0, 0⟩ 0) _ rfl rfl rfl (setRow_heap _ _ _ _ _ _ hres)) rfl ⟨?_, below_setRow (box_below _ _) (Nat.le_refl _) _⟩
      rw [HV.out]
  | false =>
    have j2 : z2 = false := by
      cases z2 with
      | false => rfl
      | true => simp at hz1 hz2; omega
    subst j2
    clear hz12 hz22
    go_enter Try.func7, Try.ntmps7
    go_wp2_with (refine wpList_store_row rfl 31 _ _ rfl w.heap.size (verC ⟨0, 0⟩ 0) rfl rfl 31 _ hres size_ver rfl (verC_one _ _) ?_)
    refine bodyPost_ret (v := .tuple #[.agg (verC ⟨0, 0⟩ 0), .iface 63 (.int .i64 3)]) (results_ver rfl _ _ w.heap.size (verC ⟨0, 0⟩ 0) _ rfl rfl rfl (setRow_heap _ _ _ _ _ _ hres)) rfl ⟨?_, below_setRow (box_below _ _) (Nat.le_refl _) _⟩
    rw [HV.out]
end Go.Proofs.Ytphkhfeofoadcab

/- comp.branches: the map of the branches that conds need. -/
namespace Go.Proofs.Ytphkhfeofoadcab
open Go.RowKit Go.Sort

/-- 'm[k] = v' in a map's literal: a key that was not there. -/
theorem wpList_need {ops : Array Oper} {rest : List Oper} {o : Oper} {a : Act} {w : World} {Q : Exit → Act → World → Prop} (hgd : o.guard = none) (m k x : Operand) (ho : o.op = .insert 67 m k x) (hd : o.dst = none) (kk : Int) (v : Value) (es : Array MapEntry) (clock r : Nat)
    (hm : a.eval m = .map (some r)) (hk : a.eval k = .int .i64 kk) (hx : a.eval x = v) (hb : w.heap[r]? = some (.map es clock)) (hf : Instr.findNow (.int .i64) (.int .i64 kk) es.toList 0 = some none)
    (h : ∀ w', w'.heap[r]? = some (.map (es.push ⟨.int .i64 kk, v, clock⟩) (clock + 1)) → Below r w w' → w'.heap.size = w.heap.size → wpList Try.prog ops Q rest a w') : wpList Try.prog ops Q (o :: rest) a w := by
  have hr : (Instr.mapUpdate 67 (.map (some r)) (.int .i64 kk) v).run Try.prog w = .ok () { w with heap := w.heap.setIfInBounds r (.map (es.push ⟨.int .i64 kk, v, clock⟩) (clock + 1)) } := by
    have hc : (Instr.checkKey false 10000 3 (.int .i64 kk)).run Try.prog w = .ok () w := MapKept.run_checkKey (k := .int .i64 kk) Try.underlying3 (by simp [MapKept.IsKey]) false 9999
    simp [Instr.mapUpdate, run_underlying Try.underlying67, MapKept.run_getObj_map hb, hc, MapKept.run_findKey Try.underlying3 hf, MapKept.run_setObj_map _ hb, Result.andThen]
  have hlt : r < w.heap.size := (Array.getElem?_eq_some_iff.1 hb).1
  refine wpList_plain hgd fun _ hK => ?_
  unfold Oper.wp execOp
  simp only [ho, hm, hk, hx, Sem.run_bind, hr, Result.andThen_ok]
  refine hK _ _ ?_
  rw [hd]
  refine h _ ?_ ⟨rfl, rfl, rfl, by simp, fun j hj => ?_⟩ (by simp)
  · simp [hlt]
  · simp only [Array.getElem?_setIfInBounds]
    rw [if_neg (by omega)]

def brV (op : Int) : Value := .agg #[.int .i64 (brOp op), .bool (brTurn op)]
def needA : Array MapEntry := #[⟨.int .i64 1, brV 1, 0⟩, ⟨.int .i64 2, brV 2, 1⟩, ⟨.int .i64 3, brV 3, 2⟩, ⟨.int .i64 4, brV 4, 3⟩, ⟨.int .i64 5, brV 5, 4⟩, ⟨.int .i64 6, brV 6, 5⟩, ⟨.int .i64 7, brV 7, 6⟩]
/-- The map lies there. -/
def IsNeed (r : Nat) (w : World) : Prop := w.heap[r]? = some (.map needA 7)
theorem IsNeed.on {r : Nat} {w v : World} (h : IsNeed r w) (hb : Below w.heap.size w v) : IsNeed r v := (hb.block r (Array.getElem?_eq_some_iff.1 h).1).trans h
theorem IsNeed.lt {r : Nat} {w : World} (h : IsNeed r w) : r < w.heap.size := (Array.getElem?_eq_some_iff.1 h).1

/-- What the map has for an op. -/
theorem run_need {r : Nat} {w : World} (h : IsNeed r w) (op : Int) (h1 : 1 ≤ op) (h9 : op ≤ 9) :
    (Instr.lookup 67 (.map (some r)) (.int .i64 op) true).run Try.prog w = .ok (.tuple #[if op ≤ 7 then brV op else .agg #[.int .i64 0, .bool false], .bool (decide (op ≤ 7))]) w := by
  have hc : (Instr.checkKey false 10000 3 (.int .i64 op)).run Try.prog w = .ok () w := MapKept.run_checkKey (k := .int .i64 op) Try.underlying3 (by simp [MapKept.IsKey]) false 9999
  have he : needA.isEmpty = false := rfl
  rcases (by omega : op = 1 ∨ op = 2 ∨ op = 3 ∨ op = 4 ∨ op = 5 ∨ op = 6 ∨ op = 7 ∨ op = 8 ∨ op = 9) with rfl | rfl | rfl | rfl | rfl | rfl | rfl | rfl | rfl
  · have hf : Instr.findNow (.int .i64) (.int .i64 1) needA.toList 0 = some (some (0, brV 1)) := by rfl
    simp [Instr.lookup, run_underlying Try.underlying67, MapKept.run_getObj_map h, he, hc, MapKept.run_findKey Try.underlying3 hf, Result.andThen]
  · have hf : Instr.findNow (.int .i64) (.int .i64 2) needA.toList 0 = some (some (1, brV 2)) := by rfl
    simp [Instr.lookup, run_underlying Try.underlying67, MapKept.run_getObj_map h, he, hc, MapKept.run_findKey Try.underlying3 hf, Result.andThen]
  · have hf : Instr.findNow (.int .i64) (.int .i64 3) needA.toList 0 = some (some (2, brV 3)) := by rfl
    simp [Instr.lookup, run_underlying Try.underlying67, MapKept.run_getObj_map h, he, hc, MapKept.run_findKey Try.underlying3 hf, Result.andThen]
  · have hf : Instr.findNow (.int .i64) (.int .i64 4) needA.toList 0 = some (some (3, brV 4)) := by rfl
    simp [Instr.lookup, run_underlying Try.underlying67, MapKept.run_getObj_map h, he, hc, MapKept.run_findKey Try.underlying3 hf, Result.andThen]
  · have hf : Instr.findNow (.int .i64) (.int .i64 5) needA.toList 0 = some (some (4, brV 5)) := by rfl
    simp [Instr.lookup, run_underlying Try.underlying67, MapKept.run_getObj_map h, he, hc, MapKept.run_findKey Try.underlying3 hf, Result.andThen]
  · have hf : Instr.findNow (.int .i64) (.int .i64 6) needA.toList 0 = some (some (5, brV 6)) := by rfl
    simp [Instr.lookup, run_underlying Try.underlying67, MapKept.run_getObj_map h, he, hc, MapKept.run_findKey Try.underlying3 hf, Result.andThen]
  · have hf : Instr.findNow (.int .i64) (.int .i64 7) needA.toList 0 = some (some (6, brV 7)) := by rfl
    simp [Instr.lookup, run_underlying Try.underlying67, MapKept.run_getObj_map h, he, hc, MapKept.run_findKey Try.underlying3 hf, Result.andThen]
  · have hf : Instr.findNow (.int .i64) (.int .i64 8) needA.toList 0 = some none := by rfl
    simp [Instr.lookup, run_underlying Try.underlying67, MapKept.run_getObj_map h, he, hc, MapKept.run_findKey Try.underlying3 hf, Result.andThen]
  · have hf : Instr.findNow (.int .i64) (.int .i64 9) needA.toList 0 = some none := by rfl
    simp [Instr.lookup, run_underlying Try.underlying67, MapKept.run_getObj_map h, he, hc, MapKept.run_findKey Try.underlying3 hf, Result.andThen]

set_option maxRecDepth 20000 in
theorem branches_any (w : World) : Calls Try.prog 17 #[] w fun e w' => e = .returned (.map (some w.heap.size)) ∧ IsNeed w.heap.size w' ∧ Below w.heap.size w w' := by
  have hmm := @run_makeMap Try.prog
  have hcur : (w.alloc (.map #[] 0)).heap[w.heap.size]? = some (.map #[] 0) := heap_alloc_new _ _
  have HB := hide (box_below w (.map #[] 0))
  go_enter Try.func17, Try.ntmps17
  go_wp2_with (refine wpList_need (by rfl) _ _ _ (by rfl) (by rfl) _ _ _ _ _ (by rfl) (by rfl) (by rfl) hcur (by rfl) ?_; clear hcur; intro w1 hcur hbb _; replace HB := hide (HB.out.trans hbb); clear hbb)
  go_ret
  exact ⟨rfl, hcur, HB.out⟩
end Go.Proofs.Ytphkhfeofoadcab

/- comp: lists of instructions in memory of one's own; loadCode, ruleNumber. -/
namespace Go.Proofs.Ytphkhfeofoadcab
open Go.RowKit Go.Sort
open Bp (IN InOk)

def insL (x : IN) : List Value := [.int .i64 x.op, .int .i64 x.jt, .int .i64 x.jf, .int .u32 x.k]
def flatL (l : List IN) : List Value := l.flatMap insL
theorem flatL_len (l : List IN) : (flatL l).length = l.length * 4 := by
  induction l with
  | nil => rfl
  | cons x r ih => rw [flatL, List.flatMap_cons, List.length_append]; unfold flatL at ih; rw [ih, List.length_cons]; simp [insL]; omega
theorem flatL_app (a b : List IN) : flatL (a ++ b) = flatL a ++ flatL b := by unfold flatL; rw [List.flatMap_append]
theorem flatL_one (l : List IN) : ∀ u ∈ flatL l, u.oneCell' = true := fun u h => by
  obtain ⟨x, _, hu⟩ := List.mem_flatMap.1 h
  simp only [insL, List.mem_cons, List.not_mem_nil, or_false] at hu
  rcases hu with rfl | rfl | rfl | rfl <;> rfl
theorem info_ins : ∃ i, Try.prog.info? 66 = some i ∧ i.zero = some (.agg #[.int .i64 0, .int .i64 0, .int .i64 0, .int .u32 0]) ∧ i.size = 4 ∧ i.bytes = 32 := by
  have hz : (Try.prog.info? 66).map (·.zero) = some (some (.agg #[.int .i64 0, .int .i64 0, .int .i64 0, .int .u32 0])) := by kernel_rfl
  have hs : (Try.prog.info? 66).map (·.size) = some 4 := by kernel_rfl
  have hb : (Try.prog.info? 66).map (·.bytes) = some 32 := by kernel_rfl
  cases hq : Try.prog.info? 66 with
  | none => rw [hq] at hs; simp at hs
  | some i =>
    rw [hq] at hz hs hb
    simp at hz hs hb
    exact ⟨i, rfl, hz, hs, hb⟩
/-- A list of instructions that lies in a row of one's own, from block 'base' on. -/
def Own (base g cap : Nat) (l : List IN) (W : World) : Prop := W.ownsRow base 66 4 (.slice (some ⟨g, 0, none⟩) l.length cap) l.length (flatL l)
theorem Own.lt {base g cap : Nat} {l : List IN} {W : World} (h : Own base g cap l W) : base ≤ g ∧ g < W.heap.size := World.ownsRow.lt h g rfl
theorem Own.on {base g cap : Nat} {l : List IN} {W V : World} (h : Own base g cap l W) (hb : Below W.heap.size W V) : Own base g cap l V :=
  World.ownsRow.kept h (row := none) ⟨hb.os, hb.tape, hb.output, hb.size, fun k hk _ => hb.block k hk⟩ (.inr (by simp [Value.ownBlock]))
theorem Own.grown {base g cap : Nat} {l : List IN} {W V : World} {row : Option Nat} (h : Own base g cap l W) (hb : W.grownBy V row) (hn : row ≠ some g) : Own base g cap l V :=
  World.ownsRow.kept h hb (.inr (by simp only [Value.ownBlock]; exact fun e => hn e.symm))
theorem Own.made (W : World) (l : List IN) (cs : Array Value) (base : Nat) (hb : base ≤ W.heap.size) (hl : l.length ≤ 10000) (hc : cs.toList = flatL l) : Own base W.heap.size l.length l (W.alloc (.cells cs 66)) := by
  have hs : cs.size = l.length * 4 := by rw [← flatL_len, ← hc]; simp
  have h := World.ownsRow_lit (e := 66) (size := 4) (base := base) W cs l.length hb (by simp only [maxLen]; omega) hs
  rw [hc] at h
  exact h
theorem Own.mono {base base' g cap : Nat} {l : List IN} {W : World} (h : Own base g cap l W) (hb : base' ≤ base) : Own base' g cap l W := World.ownsRow.mono h hb
theorem Own.cells {base g cap : Nat} {l : List IN} {W : World} (h : Own base g cap l W) : ∀ j u, (flatL l)[j]? = some u → W.cell? ((⟨g, 0, none⟩ : Addr).add j) = some u := World.ownsRow.cells h rfl
/-- 'append(s, x...)'. -/
theorem wpList_app {ops : Array Oper} {rest : List Oper} {o : Oper} {a : Act} {w : World} {Q : Exit → Act → World → Prop} (hgd : o.guard = none) (s x : Operand)
    (ho : o.op = .call { callee := .builtin .append, args := #[s, x], argTypes := #[39, 39] })
    (base base2 g1 cap1 g2 cap2 n m : Nat) (l k : List IN) (hn : n = l.length) (hm : m = k.length) (hs : a.eval s = .slice (some ⟨g1, 0, none⟩) n cap1) (hx : a.eval x = .slice (some ⟨g2, 0, none⟩) m cap2) (hl : Own base g1 cap1 l w) (hk : Own base2 g2 cap2 k w) (hp : 0 < k.length) (hsm : l.length + k.length ≤ 10000)
    (h : ∀ g cap w', Own base g cap (l ++ k) w' → w.grownBy w' (some g1) → wpList Try.prog ops Q rest (a.put o.dst (.slice (some ⟨g, 0, none⟩) ((n + m : Nat)) cap)) w') : wpList Try.prog ops Q (o :: rest) a w := by
  subst hn hm
  obtain ⟨i, hi, hz, hsz, hby⟩ := info_ins
  have hlt := hl.lt
  refine wpList_append_lies (P := Try.prog) w hgd s x 39 ho base 66 i _ 4 32 Try.underlying39 hi hz hsz hby rfl (by decide) (.slice (some ⟨g1, 0, none⟩) l.length cap1) l.length (flatL l) hs hl ⟨g2, 0, none⟩ k.length cap2 (flatL k) hx (flatL_len k) hk.cells (flatL_one k) hp (by simp only [maxLen]; omega) (by omega) (by omega) w.heap.size rfl ?_
  intro g cap w' h1 h2 _ _
  refine h g cap w' ?_ h2
  unfold Own
  rw [List.length_append, flatL_app]
  exact h1
/-- .. as a step of a region that draws. -/
theorem step_app {ops : Array Oper} {o : Oper} {a : Act} {w : World} {K : Act → World → Prop} {Q : Exit → Act → World → Prop} {E : Prop} (hgd : o.guard = none) (s x : Operand)
    (ho : o.op = .call { callee := .builtin .append, args := #[s, x], argTypes := #[39, 39] })
    (base base2 g1 cap1 g2 cap2 n m : Nat) (l k : List IN) (hn : n = l.length) (hm : m = k.length) (hs : a.eval s = .slice (some ⟨g1, 0, none⟩) n cap1) (hx : a.eval x = .slice (some ⟨g2, 0, none⟩) m cap2) (hl : Own base g1 cap1 l w) (hk : Own base2 g2 cap2 k w) (hp : 0 < k.length) (hsm : l.length + k.length ≤ 10000)
    (h : ∀ g cap w', Own base g cap (l ++ k) w' → w.grownBy w' (some g1) → K (a.put o.dst (.slice (some ⟨g, 0, none⟩) ((n + m : Nat)) cap)) w') : if Region.wanted o (yielded ops a.tmps) = true then Oper.wp Try.prog o a w K Q else E := by
  subst hn hm
  obtain ⟨i, hi, hz, hsz, hby⟩ := info_ins
  have hlt := hl.lt
  refine step_append_lies (P := Try.prog) w hgd s x 39 ho base 66 i _ 4 32 Try.underlying39 hi hz hsz hby rfl (by decide) (.slice (some ⟨g1, 0, none⟩) l.length cap1) l.length (flatL l) hs hl ⟨g2, 0, none⟩ k.length cap2 (flatL k) hx (flatL_len k) hk.cells (flatL_one k) hp (by simp only [maxLen]; omega) (by omega) (by omega) w.heap.size rfl ?_
  intro g cap w' h1 h2 _ _
  refine h g cap w' ?_ h2
  unfold Own
  rw [List.length_append, flatL_app]
  exact h1
theorem below_grown {B : Nat} {a w w' : World} {g : Nat} (h : Below B a w) (hg : w.grownBy w' (some g)) (hB : B ≤ g) (hs : a.heap.size ≤ w.heap.size) (hBa : B ≤ a.heap.size) : Below B a w' :=
  h.trans ⟨hg.os, hg.tape, hg.output, hg.size, fun k hk => hg.block k (by omega) (fun e => by injection e; omega)⟩

set_option maxRecDepth 20000 in
theorem loadCode_any (c : CD) (hc : CdOk c) (h : Nat) (ha : 0 ≤ c.arg ∧ c.arg ≤ 3) (hh : h ≤ 1) (w : World) : Calls Try.prog 42 #[condV c, .int .i64 h] w fun e w' => (∃ g cap, e = .returned (.slice (some ⟨g, 0, none⟩) (loadP c h).length cap) ∧ Own w.heap.size g cap (loadP c h) w') ∧ Below w.heap.size w w' := by
  obtain ⟨arg, op, v, m, gl, ⟨ip, b, lo, hi⟩⟩ := c
  have hm := hc.m
  simp only at hm ha
  obtain ⟨A, rfl⟩ : ∃ A : Nat, arg = A := ⟨arg.toNat, by omega⟩
  have HP := place_any A h (by omega) hh
  have HH := half_any m h hm hh
  have HL := hide (show loadP ⟨A, op, v, m, gl, ⟨ip, b, lo, hi⟩⟩ h = ⟨1, 0, 0, 8 + (2 * A + h) * 4⟩ :: if op = 7 then [⟨2, 0, 0, halfN m h⟩] else [] from rfl)
  obtain ⟨P, hP⟩ : ∃ P : Nat, P = 8 + (2 * A + h) * 4 := ⟨_, rfl⟩
  rw [← hP] at HP HL
  obtain ⟨M, hM⟩ : ∃ M : Nat, M = halfN m h := ⟨_, rfl⟩
  rw [← hM] at HH HL
  clear hP hM ha hc hm
  unfold condV
  simp only
  obtain ⟨V, hV, hVb, hVs⟩ : ∃ V, V = w.alloc (.cells #[.int .i64 A, .int .i64 op, .int .u64 v, .int .u64 m, .string gl, .int .u32 ip, .int .i64 b, .int .i64 lo, .int .i64 hi] 62) ∧ Below w.heap.size w V ∧ V.heap.size = w.heap.size + 1 := ⟨_, rfl, box_below _ _, by rw [World.size_alloc]⟩
  have q1 : Own w.heap.size (w.heap.size + 1) 1 [⟨1, 0, 0, P⟩] (V.alloc (.cells #[.int .i64 1, .int .i64 0, .int .i64 0, .int .u32 P] 66)) := by
    rw [← hVs]
    exact Own.made V [⟨1, 0, 0, P⟩] _ _ (by omega) (by simp) rfl
  by_cases h7 : op = 7
  · subst h7
    have q2 : Own w.heap.size (w.heap.size + 1 + 1) 1 [⟨2, 0, 0, M⟩] ((V.alloc (.cells #[.int .i64 1, .int .i64 0, .int .i64 0, .int .u32 P] 66)).alloc (.cells #[.int .i64 2, .int .i64 0, .int .i64 0, .int .u32 M] 66)) := by
      have := Own.made (V.alloc (.cells #[.int .i64 1, .int .i64 0, .int .i64 0, .int .u32 P] 66)) [⟨2, 0, 0, M⟩] #[.int .i64 2, .int .i64 0, .int .i64 0, .int .u32 M] w.heap.size (by rw [World.size_alloc]; omega) (by simp) rfl
      rwa [World.size_alloc, hVs] at this
    have hbb : Below w.heap.size w ((V.alloc (.cells #[.int .i64 1, .int .i64 0, .int .i64 0, .int .u32 P] 66)).alloc (.cells #[.int .i64 2, .int .i64 0, .int .i64 0, .int .u32 M] 66)) := below_next (below_next hVb (box_below _ _)) (box_below _ _)
    replace q1 := q1.on (box_below _ (.cells #[.int .i64 2, .int .i64 0, .int .i64 0, .int .u32 M] 66))
    rw [hV] at q1 q2 hbb
    clear hV hVb hVs
    have Q1 := hide q1
    have Q2 := hide q2
    have HBB := hide hbb
    clear q1 q2 hbb
    go_enter Try.func42, Try.ntmps42
    go_wp2_with (first
      | (go_at_call 49; refine (HP _).mono ?_; rintro e w' ⟨rfl, rfl⟩)
      | (go_at_call 43; refine (HH _).mono ?_; rintro e w' ⟨rfl, rfl⟩)
      | (refine wpList_app rfl _ _ rfl w.heap.size w.heap.size (w.heap.size + 1) 1 (w.heap.size + 1 + 1) 1 1 1 [⟨1, 0, 0, P⟩] [⟨2, 0, 0, M⟩] rfl rfl rfl rfl Q1.out Q2.out (by simp) (by simp) ?_; intro g cap w' hO hG))
    go_ret
    have hbw := below_grown HBB.out hG (by omega) HBB.out.size (Nat.le_refl _)
    rw [HL.out]
    exact ⟨⟨g, cap, rfl, hO⟩, hbw⟩
  · rw [if_neg h7] at HL
    have hbb : Below w.heap.size w (V.alloc (.cells #[.int .i64 1, .int .i64 0, .int .i64 0, .int .u32 P] 66)) := below_next hVb (box_below _ _)
    rw [hV] at q1 hbb
    clear hV hVb hVs
    have Q1 := hide q1
    have HBB := hide hbb
    clear q1 hbb
    go_enter Try.func42, Try.ntmps42
    go_wp2_with (go_at_call 49; refine (HP _).mono ?_; rintro e w' ⟨rfl, rfl⟩)
    go_ret
    rw [HL.out]
    exact ⟨⟨_, _, rfl, Q1.out⟩, HBB.out⟩
end Go.Proofs.Ytphkhfeofoadcab

/- comp.ruleNumber. -/
namespace Go.Proofs.Ytphkhfeofoadcab
open Go.RowKit Go.Sort
open Bp (IN InOk)

theorem numB_le {c : CD} (h1 : 1 ≤ c.op) (h9 : c.op ≤ 9) : numB c = decide (c.op ≤ 7) := by
  unfold numB kindOp
  by_cases h8 : c.op = 8
  · rw [if_pos h8, h8]; rfl
  · by_cases e9 : c.op = 9
    · rw [if_neg h8, if_pos e9, e9]; rfl
    · rw [if_neg h8, if_neg e9, show decide (c.op ≤ 7) = true by simp; omega]; rfl

set_option maxHeartbeats 4000000 in
set_option maxRecDepth 20000 in
theorem ruleNumber_any (r : RL) (hr : RuleOk r) (i : Nat) (hi : i ≤ 12) (oa : Option Addr) (cap mb : Nat) (w : World) (hc : IsConds oa r.conds w) (hN : IsNeed mb w) :
    Calls Try.prog 29 #[ruleV r oa cap, .int .i64 i, .map (some mb)] w fun e w' => e = .returned (.int .u32 (ruleN r i : Nat)) ∧ Below w.heap.size w w' := by
  obtain ⟨n, hn⟩ : ∃ n, n = r.conds.length := ⟨_, rfl⟩
  have HC := hide (conds_parts hc n hn)
  have h4 : n ≤ 4 := by have := hr.few; omega
  have HSH := hide hr.conds
  have HL := hide (show ∀ i, i < n → ∃ c, r.conds[i]? = some c ∧ r.conds.take (i + 1) = r.conds.take i ++ [c] from fun i h => take_next (by omega))
  have HD := hide (show deepB r = !(r.conds.all numB) by unfold deepB; rw [List.any_eq_not_all_not]; simp)
  have HR := hide (show ruleN r i = if deepB r then 2146435072 + i else actN r.act from rfl)
  have HA := actionNumber_any r.act (act_fine hr.act)
  obtain ⟨z, hz⟩ : ∃ z, z = ruleN r i := ⟨_, rfl⟩
  rw [← hz] at HR ⊢
  have HNE := hide hN
  clear hc hz hr hN
  obtain ⟨nr, cs, ⟨ak, ae⟩⟩ := r
  unfold ruleV
  unfold actV at HA
  simp only at HC HL HD HSH HA hn ⊢
  rw [← hn]
  have HZN := hide hn
  clear hn
  obtain ⟨V, hV, hB, hsz, hx⟩ := one_box w #[.int .i64 nr, .slice oa n cap, .int .i64 ak, .int .i64 ae] 58
  have k1 := hx 1
  have k2 := hx 2
  have k3 := hx 3
  simp only [List.getElem?_toArray, List.getElem?_cons_zero, List.getElem?_cons_succ] at k1 k2 k3
  clear hx
  go_enter Try.func29, Try.ntmps29
  go_wp2
  rw [← hV]
  clear hV
  go_loopw [13] (fun I w' => ∃ k : Nat, k ≤ n ∧ I = .int .i64 k ∧ Hid ((cs.take k).all numB = true) ∧ Hid (Below V.heap.size V w')) (fun I _ => n - (intOf I).toNat)
  case atStart => exact ⟨0, by omega, rfl, hide rfl, hide (Below.refl _ _)⟩
  case round =>
    obtain ⟨k, hk, rfl, HG, HB⟩ := hrel
    by_cases hlt : k < n
    · obtain ⟨c, hcs, hcat⟩ := HL.out k hlt
      obtain ⟨b, off, rfl, hbw, HAA⟩ := HC.out (by omega)
      have hA := (HAA.out k c hcs).on fun j => (bcell (below_next hB HB.out)).1 b j hbw
      have c1 := hA.k1
      have HQ := hide (all_take_snoc (f := numB) hcat HG.out)
      have hsh := shape_fine (HSH.out c (List.mem_of_getElem? hcs))
      have hNw := HNE.out.on (below_next hB HB.out)
      have hlk := run_need hNw c.op hsh.2.1 hsh.2.2
      rw [numB_le hsh.2.1 hsh.2.2] at HQ
      have k1' := keep_cell HB.out k1
      clear hsh hcs hcat hA
      obtain ⟨op, hop⟩ : ∃ o, o = c.op := ⟨_, rfl⟩
      rw [← hop] at c1 hlk HQ
      clear hop
      by_cases h7 : op ≤ 7
      · rw [if_pos h7, show decide (op ≤ 7) = true by simpa using h7] at hlk
        rw [show decide (op ≤ 7) = true by simpa using h7] at HQ
        unfold brV at hlk
        clear h7
        go_wp2
        go_round
        case rel => exact ⟨k + 1, by omega, by go_num, HQ, hide (below_next HB.out (box_below _ _))⟩
        case measure => simp [intOf]; omega
      · rw [if_neg h7, show decide (op ≤ 7) = false by simpa using h7] at hlk
        rw [show decide (op ≤ 7) = false by simpa using h7] at HQ
        have HZ := hide (show z = 2146435072 + i by rw [HR.out, if_pos (by rw [HD.out, all_take_false HQ.out]; rfl)])
        clear h7
        go_wp2
        go_ret
        exact ⟨ret_int (by rw [HZ.out]; first | rfl | (simp; done) | omega), below_next hB (below_next HB.out (box_below _ _))⟩
    · obtain rfl : k = n := by omega
      have HZ := hide (show z = actN ⟨ak, ae⟩ by
        have := HG.out
        rw [List.take_of_length_le (by rw [HZN.out]; exact Nat.le_refl _)] at this
        rw [HR.out, if_neg (by rw [HD.out, this]; decide)])
      have g2 := keep_cell HB.out k2
      have g3 := keep_cell HB.out k3
      have HBB := hide (below_next hB HB.out)
      rw [← HZ.out] at HA
      clear hlt
      go_wp2_with (go_at_call 19; refine (HA _).mono ?_; rintro e w' ⟨rfl, hb1⟩)
      go_ret
      exact ⟨rfl, below_next HBB.out hb1⟩
end Go.Proofs.Ytphkhfeofoadcab
