/- The document's Run. -/
import Derived.Test.YtlpcjonklfnejaaBRef
namespace Go.Proofs.Ytlpcjonklfnejaa
open Go.RowKit

theorem skip_jump {y : IN} (h : y.op = 3) (x : Nat) : skipI y x = (y.k : Int) := by unfold skipI; rw [h]; rfl
theorem skip_turn {y : IN} (h : y.op ≠ 3) (x : Nat) : skipI y x = if holdsB y x then y.jt else y.jf := by unfold skipI; rw [if_neg (by rw [beq_iff_eq]; exact h)]

set_option maxRecDepth 20000 in
set_option maxHeartbeats 4000000 in
theorem rrun_ok (oa : Option Addr) (n cap : Nat) (L : Nat → IN) (c : CL) (hc : ClOk c) (w : World) (h : IsProg oa n L w) (hf : checkR n L = 0) :
    Calls Try.prog 50 #[.slice oa n cap, callV c] w fun e w' => e = .returned (.tuple #[.int .u32 (runR L c n 0 0 0).1, .int .i64 (runR L c n 0 0 0).2]) ∧ Below w.heap.size w w' := by
  have HF := hide (fit_of hf)
  have hpos := HF.out.pos
  have hmost := HF.out.most
  have HR := record_any c hc
  unfold callV at HR ⊢
  obtain ⟨b, off, rfl, hb, hA0⟩ := h.lie hpos
  have HA := hide hA0
  obtain ⟨R, hR⟩ : ∃ R, R = runR L c n 0 0 0 := ⟨_, rfl⟩
  rw [← hR]
  replace hR := hide hR
  clear h hA0 hf
  go_enter Try.func50, Try.ntmps50
  go_wp2_with fail
  refine (HR _).mono ?_
  rintro e w1 ⟨rfl, hb1⟩
  replace hb1 := hide (below_next (box_below w _) hb1)
  clear HR
  obtain ⟨W0, hW0⟩ : ∃ W0, W0 = w1.alloc (.cells (recA c 4) 125) := ⟨_, rfl⟩
  have HW := hide hW0
  have HG := hide (show ∀ i, i < 10 → W0.cell? ⟨w1.heap.size, i, none⟩ = some (.int .u32 (wordN c i)) from fun i hi => by
    rw [hW0]
    exact (cell_of_row (w1.alloc (.cells (recA c 4) 125)) w1.heap.size i _ _ _ (heap_alloc_new w1 _)).trans (rec_get c i hi))
  have hB0 := hide (show Below w.heap.size w W0 by rw [hW0]; exact below_next hb1.out (box_below _ _))
  have hg0 : w1.heap.size < W0.heap.size := by rw [hW0]; simp
  clear hW0
  obtain ⟨g, hg⟩ : ∃ g, g = w1.heap.size := ⟨_, rfl⟩
  rw [← hg] at HG hg0
  simp only [recA]
  go_wp2
  rw [← hg]
  replace hg := hide hg
  go_loopw [7, 8, 9] (fun N P I w' => ∃ d p x : Nat, d < n ∧ N = .int .u32 x ∧ P = .int .i64 p ∧ I = .int .i64 (d + 1 : Nat) ∧ p < n ∧ Hid (x < 4294967296) ∧ Hid (d ≤ p) ∧ Hid (runR L c (n - d) p x d = R) ∧ Hid (Below W0.heap.size W0 w')) (fun _ P _ _ => n - (intOf P).toNat)
  case atStart => exact ⟨0, 0, 0, hpos, rfl, rfl, rfl, hpos, hide (by decide), hide (Nat.le_refl _), hide hR.out.symm, hide (by rw [HW.out]; exact Below.refl _ _)⟩
  case round =>
    obtain ⟨d, p, x, hd, rfl, rfl, rfl, hp, HX, HD, HRR, HB⟩ := hrel
    have hI := (HA.out p hp).on fun j => (bcell (hB0.out.trans (HB.out.mono hB0.out.size))).1 b j hb
    have HN := hide (fun h8 => HF.out.next hp h8)
    have HS := hide (fun h8 h1 h2 => HF.out.skip hp h8 h1 h2 x)
    have HE := hide (fine_ins (HF.out.each p hp))
    have hgw : g < wr.heap.size := Nat.lt_of_lt_of_le hg0 HB.out.size
    have HGc := hide (fun i hi => (HB.out.cell (p := ⟨g, i, none⟩) hg0).trans (HG.out i hi))
    have hok := hI.ok
    have hRR := HRR.out
    rw [show n - d = (n - d - 1) + 1 by omega, runR, show n - d - 1 = n - (d + 1) by omega] at hRR
    obtain ⟨y, hy⟩ : ∃ y, y = L p := ⟨_, rfl⟩
    rw [← hy] at hI HN HS HE hok hRR
    clear hy HRR
    obtain ⟨c0, c1, c2, c3, _⟩ := hI
    by_cases h8 : y.op = 8
    · rw [if_pos h8] at hRR
      replace hRR := hide hRR
      obtain ⟨op, jt, jf, k⟩ := y
      simp only at h8 c0 c1 c2 c3
      subst h8
      clear HN HS HE hok
      go_wp2
      go_ret2
      exact ⟨by rw [← hRR.out]; rfl, below_next hB0.out (below_next HB.out (box_below wr _))⟩
    have hnx := HN.out h8
    have hdp := HD.out
    by_cases h1 : y.op = 1
    · rw [if_neg h8, if_pos h1] at hRR
      replace hRR := hide hRR
      have hpl := HE.out.2.2.2.2.2.2.2.1 h1
      obtain ⟨op, jt, jf, k⟩ := y
      simp only at h1 c0 c1 c2 c3 hpl
      subst h1
      have hk10 : k / 4 < 10 := by rcases place_cases hpl with h | h | h | h | h | h | h | h | h | h <;> omega
      have cw := HGc.out (k / 4) hk10
      have hk40 : k < 40 := by omega
      clear HN HS HE h8 hok hpl
      go_wp2
      go_round
      case rel => exact ⟨d + 1, p + 1, _, by omega, rfl, by go_num, by go_num, hnx, hide (wordN_lt c hc _), hide (by omega), hRR, hide (below_next HB.out (box_below wr _))⟩
      case measure => simp [intOf]; omega
    by_cases h2 : y.op = 2
    · rw [if_neg h8, if_neg h1, if_pos h2] at hRR
      replace hRR := hide hRR
      have hbit := u32_and_nat x y.k HX.out hok.k2
      obtain ⟨op, jt, jf, k⟩ := y
      simp only at h2 c0 c1 c2 c3 hbit
      subst h2
      have HL := hide (show x &&& k < 4294967296 from Nat.lt_of_le_of_lt Nat.and_le_left HX.out)
      clear HN HS HE h8 h1 hok
      go_wp2
      go_round
      case rel => exact ⟨d + 1, p + 1, _, by omega, rfl, by go_num, by go_num, hnx, HL, hide (by omega), hRR, hide (below_next HB.out (box_below wr _))⟩
      case measure => simp [intOf]; omega
    rw [if_neg h8, if_neg h1, if_neg h2] at hRR
    obtain ⟨hs0, hs1⟩ := HS.out h8 h1 h2
    have hk := hok.k2
    by_cases h3 : y.op = 3
    · rw [skip_jump h3] at hRR hs0 hs1
      rw [Int.toNat_natCast] at hRR hs1
      replace hRR := hide hRR
      obtain ⟨op, jt, jf, k⟩ := y
      simp only at h3 c0 c1 c2 c3 hs1 hk
      subst h3
      clear HN HS HE h8 h1 h2 hok hs0
      go_wp2
      go_round
      case rel => exact ⟨d + 1, p + 1 + k, x, by omega, rfl, by go_num, by go_num, hs1, HX, hide (by omega), hRR, hide (below_next HB.out (box_below wr _))⟩
      case measure => simp [intOf]; omega
    · have hr := HE.out
      rw [skip_turn h3] at hRR hs0 hs1
      have hbit := u32_and_nat x y.k HX.out hok.k2
      obtain ⟨op, jt, jf, k⟩ := y
      simp only at h8 h1 h2 h3 c0 c1 c2 c3 hs0 hs1 hk hRR hr hbit
      obtain ⟨r1, r2, r3, r4, r5, r6, _⟩ := hr
      obtain ⟨jt', rfl⟩ : ∃ m : Nat, jt = m := ⟨jt.toNat, by omega⟩
      obtain ⟨jf', rfl⟩ : ∃ m : Nat, jf = m := ⟨jf.toNat, by omega⟩
      have hop : op = 4 ∨ op = 5 ∨ op = 6 ∨ op = 7 := by omega
      clear HN HS HE h8 h1 h2 h3 hok
      have HSK := hide (And.intro hRR hs1)
      clear hRR hs0 hs1
      cases hh : holdsB ⟨op, (jt' : Int), (jf' : Int), k⟩ x with
      | true =>
        obtain ⟨hRR, hs1⟩ := HSK.out
        rw [hh, if_pos rfl, Int.toNat_natCast] at hRR hs1
        replace hRR := hide hRR
        clear HSK
        rcases hop with rfl | rfl | rfl | rfl
        all_goals
          simp [holdsB] at hh
          go_wp2
          go_round
          case rel => exact ⟨d + 1, p + 1 + jt', x, by omega, rfl, by go_num, by go_num, hs1, HX, hide (by omega), hRR, hide (below_next HB.out (box_below wr _))⟩
          case measure => simp [intOf]; omega
      | false =>
        obtain ⟨hRR, hs1⟩ := HSK.out
        rw [hh, if_neg (by decide), Int.toNat_natCast] at hRR hs1
        replace hRR := hide hRR
        clear HSK
        rcases hop with rfl | rfl | rfl | rfl
        all_goals
          simp [holdsB] at hh
          go_wp2
          go_round
          case rel => exact ⟨d + 1, p + 1 + jf', x, by omega, rfl, by go_num, by go_num, hs1, HX, hide (by omega), hRR, hide (below_next HB.out (box_below wr _))⟩
          case measure => simp [intOf]; omega
end Go.Proofs.Ytlpcjonklfnejaa
