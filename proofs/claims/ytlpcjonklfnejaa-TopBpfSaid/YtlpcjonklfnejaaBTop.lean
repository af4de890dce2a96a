/- The walk of the law TopBpf. -/
import Derived.Test.YtlpcjonklfnejaaBRun2
namespace Go.Proofs.Ytlpcjonklfnejaa
open Go.RowKit

/-- A program that is right ends at one of its Rets, in no more steps than are left. -/
theorem run_ends {n : Nat} {L : Nat → IN} (h : Fit n L) (c : CL) : ∀ f p x d, p < n → n - p ≤ f → (∃ i, i < n ∧ (L i).op = 8 ∧ (L i).k = (runR L c f p x d).1) ∧ d + 1 ≤ (runR L c f p x d).2 ∧ (runR L c f p x d).2 ≤ d + (n - p)
  | 0, p, x, d, hp, hf => by omega
  | f + 1, p, x, d, hp, hf => by
    rw [runR]
    by_cases h8 : (L p).op = 8
    · rw [if_pos h8]
      exact ⟨⟨p, hp, h8, rfl⟩, Nat.le_refl _, by show d + 1 ≤ _; omega⟩
    rw [if_neg h8]
    have hk := h.next hp h8
    by_cases h1 : (L p).op = 1
    · rw [if_pos h1]
      obtain ⟨a, b, e⟩ := run_ends h c f (p + 1) (wordN c ((L p).k / 4)) (d + 1) hk (by omega)
      exact ⟨a, by omega, by omega⟩
    rw [if_neg h1]
    by_cases h2 : (L p).op = 2
    · rw [if_pos h2]
      obtain ⟨a, b, e⟩ := run_ends h c f (p + 1) (x &&& (L p).k) (d + 1) hk (by omega)
      exact ⟨a, by omega, by omega⟩
    rw [if_neg h2]
    obtain ⟨_, hs⟩ := h.skip hp h8 h1 h2 x
    obtain ⟨a, b, e⟩ := run_ends h c f (p + 1 + (skipI (L p) x).toNat) x (d + 1) hs (by omega)
    exact ⟨a, by omega, by omega⟩

/-- Is one of the first i a Ret that has k? -/
def foundTo (L : Nat → IN) (k : Nat) : Nat → Bool
  | 0 => false
  | i + 1 => foundTo L k i || ((L i).op == 8 && ((L i).k : Int) == (k : Int))
theorem foundTo_of {L : Nat → IN} {k i : Nat} (h8 : (L i).op = 8) (hk : (L i).k = k) : ∀ n, i < n → foundTo L k n = true
  | n + 1, hn => by
    rw [foundTo]
    by_cases h : i = n
    · subst h; simp [h8, hk]
    · rw [foundTo_of h8 hk n (by omega)]; rfl

theorem topBpf_long (oa : Option Addr) (n cap : Nat) (c : CL) (hn : 300 < n) (w : World) :
    Calls Try.prog 9 #[.slice oa n cap, callV c] w fun e w' => e = .returned (.bool true) ∧ Below w.heap.size w w' := by
  unfold callV
  go_enter Try.func9, Try.ntmps9
  go_wp2
  go_ret
  exact ⟨rfl, box_below _ _⟩
theorem topBpf_bad (oa : Option Addr) (n cap : Nat) (L : Nat → IN) (c : CL) (hn : n ≤ 300) (w : World) (h : IsProg oa n L w) (hf : checkR n L ≠ 0) :
    Calls Try.prog 9 #[.slice oa n cap, callV c] w fun e w' => e = .returned (.bool true) ∧ Below w.heap.size w w' := by
  have H := hide h
  have HR := fun w h => run_bad oa n cap (by omega) L c w h hf
  have HC := fun w h => check_any oa n cap (by omega) L w h
  rw [errV_pos hf] at HR HC
  unfold callV at HR ⊢
  clear h
  have dn : decide ((300 : Int) < (n : Int)) = false := by simp; omega
  go_enter Try.func9, Try.ntmps9
  go_wp2_with fail
  refine (HR _ (H.out.on (box_below _ _))).mono ?_
  rintro e w1 ⟨rfl, hb1⟩
  replace hb1 := hide (below_next (box_below _ _) hb1)
  go_wp2_with fail
  refine (HC _ (H.out.on hb1.out)).mono ?_
  rintro e w2 ⟨rfl, hb2⟩
  go_wp2
  go_ret
  exact ⟨rfl, below_next hb1.out hb2⟩

theorem topBpf_ok (oa : Option Addr) (n cap : Nat) (L : Nat → IN) (c : CL) (hc : ClOk c) (hn : n ≤ 300) (w : World) (h : IsProg oa n L w) (hf : checkR n L = 0) :
    Calls Try.prog 9 #[.slice oa n cap, callV c] w fun e w' => e = .returned (.bool true) ∧ Below w.heap.size w w' := by
  have HR := fun w h => run_ok oa n cap L c hc w h hf
  have HC := fun w h => check_any oa n cap (by omega) L w h
  have hpos := (fit_of hf).pos
  obtain ⟨⟨i0, hi0, h8, hk⟩, hs1, hs2⟩ := run_ends (fit_of hf) c n 0 0 0 hpos (by omega)
  obtain ⟨R, hR⟩ : ∃ R, R = runR L c n 0 0 0 := ⟨_, rfl⟩
  rw [← hR] at HR hk hs1 hs2
  rw [hf, errV_zero] at HC
  have HFD := hide (foundTo_of h8 hk n hi0)
  clear hR hf h8 hk hi0
  obtain ⟨k, s⟩ := R
  simp only at HR hs1 hs2 HFD
  obtain ⟨b, off, rfl, hb, hA0⟩ := h.lie hpos
  have HA := hide hA0
  have H := hide h
  unfold callV at HR ⊢
  clear h hA0
  have dn : decide ((300 : Int) < (n : Int)) = false := by simp; omega
  go_enter Try.func9, Try.ntmps9
  go_wp2_with fail
  refine (HR _ (H.out.on (box_below _ _))).mono ?_
  rintro e w1 ⟨rfl, hb1⟩
  replace hb1 := hide (below_next (box_below _ _) hb1)
  go_wp2_with fail
  refine (HC _ (H.out.on hb1.out)).mono ?_
  rintro e w2 ⟨rfl, hb2⟩
  replace hb2 := hide (below_next hb1.out hb2)
  clear hb1 HR HC
  go_wp2
  go_loopw [8, 9] (fun F I w' => ∃ i : Nat, i ≤ n ∧ F = .bool (foundTo L k i) ∧ I = .int .i64 i ∧ w' = w2) (fun _ I _ => n - (intOf I).toNat)
  case atStart => exact ⟨0, by omega, rfl, rfl, rfl⟩
  case round =>
    obtain ⟨i, hi, rfl, rfl, rfl⟩ := hrel
    by_cases hlt : i < n
    · have hI := (HA.out i hlt).on fun j => (bcell hb2.out).1 b j hb
      obtain ⟨c0, c1, c2, c3, _⟩ := hI
      have HQ := hide (show foundTo L k (i + 1) = (foundTo L k i || ((L i).op == 8 && ((L i).k : Int) == (k : Int))) from rfl)
      cases hfi : foundTo L k i with
      | true =>
        rw [hfi] at HQ
        clear c0 c1 c2 c3
        go_wp2
        go_round
        case rel => exact ⟨i + 1, by omega, by rw [HQ.out]; rfl, by go_num, trivial⟩
        case measure => simp [intOf]; omega
      | false =>
        rw [hfi] at HQ
        clear hfi
        cases h8 : (L i).op == 8 with
        | true =>
          rw [h8] at HQ
          go_wp2
          go_round
          case rel => exact ⟨i + 1, by omega, by rw [HQ.out]; rfl, by go_num, trivial⟩
          case measure => simp [intOf]; omega
        | false =>
          rw [h8] at HQ
          go_wp2
          go_round
          case rel => exact ⟨i + 1, by omega, by rw [HQ.out]; rfl, by go_num, trivial⟩
          case measure => simp [intOf]; omega
    · obtain rfl : i = n := by omega
      rw [HFD.out]
      go_wp2
      go_ret
      exact ⟨rfl, hb2.out⟩

theorem topBpf_any (oa : Option Addr) (n cap : Nat) (hm : n ≤ 9223372036854775807) (L : Nat → IN) (c : CL) (hc : ClOk c) (w : World) (h : IsProg oa n L w) :
    Calls Try.prog 9 #[.slice oa n cap, callV c] w fun e w' => e = .returned (.bool true) ∧ Below w.heap.size w w' := by
  by_cases hn : 300 < n
  · exact topBpf_long oa n cap c hn w
  by_cases hf : checkR n L = 0
  · exact topBpf_ok oa n cap L c hc (by omega) w h hf
  · exact topBpf_bad oa n cap L c (by omega) w h hf
end Go.Proofs.Ytlpcjonklfnejaa
