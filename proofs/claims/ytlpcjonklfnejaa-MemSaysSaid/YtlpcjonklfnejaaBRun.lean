/- Programs: Check, Run. -/
import Derived.Test.YtlpcjonklfnejaaBCheck
namespace Go.Proofs.Ytlpcjonklfnejaa
open Go.RowKit

/-- An instruction's cells lie from o on. -/
structure InsAt (W : World) (b o : Nat) (x : IN) : Prop where
  k0 : W.cell? ⟨b, o, none⟩ = some (.int .i64 x.op)
  k1 : W.cell? ⟨b, o + 1, none⟩ = some (.int .i64 x.jt)
  k2 : W.cell? ⟨b, o + 2, none⟩ = some (.int .i64 x.jf)
  k3 : W.cell? ⟨b, o + 3, none⟩ = some (.int .u32 x.k)
  ok : InOk x
theorem InsAt.on {W V : World} {b o : Nat} {x : IN} (h : InsAt W b o x) (hc : ∀ j, V.cell? ⟨b, j, none⟩ = W.cell? ⟨b, j, none⟩) : InsAt V b o x :=
  ⟨(hc _).trans h.k0, (hc _).trans h.k1, (hc _).trans h.k2, (hc _).trans h.k3, h.ok⟩
/-- A slice of n instructions in a world. -/
structure IsProg (oa : Option Addr) (n : Nat) (L : Nat → IN) (W : World) : Prop where
  lie : 0 < n → ∃ b off, oa = some ⟨b, off, none⟩ ∧ b < W.heap.size ∧ ∀ i, i < n → InsAt W b (off + i * 4) (L i)
theorem IsProg.on {oa : Option Addr} {n : Nat} {L : Nat → IN} {W V : World} (h : IsProg oa n L W) (hb : Below W.heap.size W V) : IsProg oa n L V :=
  ⟨fun h0 => by
    obtain ⟨b, off, h1, h2, h3⟩ := h.lie h0
    exact ⟨b, off, h1, Nat.lt_of_lt_of_le h2 hb.size, fun i hi => (h3 i hi).on fun j => (bcell hb).1 b j h2⟩⟩

/-- The first fault of the first i. -/
def faultTo (n : Nat) (L : Nat → IN) : Nat → Nat
  | 0 => 0
  | i + 1 => if faultTo n L i = 0 then faultI (L i) (n - 1 - i) else faultTo n L i
/-- What is wrong with a program: D2. -/
def checkR (n : Nat) (L : Nat → IN) : Nat :=
  if n = 0 ∨ 4096 < n then 2 else if faultTo n L n = 0 then (if (L (n - 1)).op = 8 then 0 else 3) else faultTo n L n
theorem faultTo_stays {n : Nat} {L : Nat → IN} {i : Nat} (h : faultTo n L i ≠ 0) : ∀ j, i ≤ j → faultTo n L j = faultTo n L i
  | 0, hj => by rw [show i = 0 by omega]
  | j + 1, hj => by
    by_cases he : i = j + 1
    · rw [he]
    · rw [faultTo, faultTo_stays h j (by omega), if_neg h]
theorem faultTo_each {n : Nat} {L : Nat → IN} {j : Nat} (h : faultTo n L j = 0) : ∀ i, i < j → faultI (L i) (n - 1 - i) = 0 := fun i hi => by
  have h1 : faultTo n L (i + 1) = 0 := Classical.byContradiction fun hc => hc (by rw [← faultTo_stays hc j (by omega)]; exact h)
  have h0 : faultTo n L i = 0 := Classical.byContradiction fun hc => hc (by rw [← faultTo_stays hc j (by omega)]; exact h)
  rw [faultTo, if_pos h0] at h1
  exact h1

theorem errV_zero : errV 0 = .nilIface := rfl
theorem errV_pos {f : Nat} (h : f ≠ 0) : errV f = .iface 98 (.int .i64 f) := if_neg h

theorem check_any (oa : Option Addr) (n cap : Nat) (hn : n ≤ 9223372036854775807) (L : Nat → IN) (w : World) (h : IsProg oa n L w) :
    Calls Try.prog 48 #[.slice oa n cap] w fun e w' => e = .returned (errV (checkR n L)) ∧ Below w.heap.size w w' := by
  by_cases h0 : n = 0
  · subst h0
    go_enter Try.func48, Try.ntmps48
    go_wp2
    go_ret
    exact ⟨rfl, Below.refl _ _⟩
  by_cases h1 : 4096 < n
  · have HF := hide (show checkR n L = 2 from if_pos (.inr h1))
    go_enter Try.func48, Try.ntmps48
    go_wp2
    go_ret
    exact ⟨by rw [HF.out]; rfl, Below.refl _ _⟩
  have HR := hide (show checkR n L = if faultTo n L n = 0 then (if (L (n - 1)).op = 8 then 0 else 3) else faultTo n L n from if_neg (by omega))
  have d0 : ((n : Int) == 0) = false := by rw [beq_eq_false_iff_ne]; omega
  have d1 : decide ((4096 : Int) < (n : Int)) = false := by simp; omega
  obtain ⟨b, off, rfl, hb, hA0⟩ := h.lie (by omega)
  have HA := hide hA0
  clear h hA0
  go_enter Try.func48, Try.ntmps48
  go_wp2
  go_loopw [16] (fun I w' => ∃ i : Nat, i ≤ n ∧ I = .int .i64 i ∧ Hid (Below w.heap.size w w') ∧ Hid (faultTo n L i = 0)) (fun I _ => n - (intOf I).toNat)
  case atStart => exact ⟨0, by omega, rfl, hide (Below.refl _ _), hide rfl⟩
  case round =>
    obtain ⟨i, hi, rfl, HB, HG⟩ := hrel
    by_cases hlt : i < n
    · have hI := (HA.out i hlt).on fun j => (bcell HB.out).1 b j hb
      have HQ := hide (show faultTo n L (i + 1) = faultI (L i) (n - 1 - i) by rw [faultTo, if_pos HG.out])
      have hok := hI.ok
      obtain ⟨x, hx⟩ : ∃ x, x = L i := ⟨_, rfl⟩
      rw [← hx] at hI hok HQ
      have HC := checkInsn_any x hok (n - 1 - i) (by omega)
      obtain ⟨f, hf⟩ : ∃ f, f = faultI x (n - 1 - i) := ⟨_, rfl⟩
      rw [← hf] at HC HQ
      have hm : ((n - 1 - i : Nat) : Int) = (n : Int) - 1 - i := by omega
      rw [hm] at HC
      obtain ⟨c0, c1, c2, c3, _⟩ := hI
      clear hx hok hf hm
      obtain ⟨op, jt, jf, k⟩ := x
      unfold insV at HC
      simp only at c0 c1 c2 c3 HC
      by_cases hz : f = 0
      · subst hz
        rw [errV_zero] at HC
        go_wp2_with (go_at_call 68; refine (HC _).mono ?_; rintro e w1 ⟨rfl, hb1⟩)
        go_round
        case rel => exact ⟨i + 1, by omega, by go_num, hide (below_next HB.out hb1), HQ⟩
        case measure => simp [intOf]; omega
      · rw [errV_pos hz] at HC
        have HE := hide (show checkR n L = f by
          have h1 : faultTo n L n = f := (faultTo_stays (by rw [HQ.out]; exact hz) n (by omega)).trans HQ.out
          rw [HR.out, if_neg (by rw [h1]; exact hz), h1])
        go_wp2_with (go_at_call 68; refine (HC _).mono ?_; rintro e w1 ⟨rfl, hb1⟩)
        go_ret
        exact ⟨by rw [HE.out, errV_pos hz]; rfl, below_next HB.out hb1⟩
    · obtain rfl : i = n := by omega
      have hI := (HA.out (i - 1) (by omega)).on fun j => (bcell HB.out).1 b j hb
      have c0 := hI.k0
      have HE := hide (show checkR i L = if (L (i - 1)).op = 8 then 0 else 3 by rw [HR.out, if_pos HG.out])
      obtain ⟨op, hop⟩ : ∃ op, op = (L (i - 1)).op := ⟨_, rfl⟩
      rw [← hop] at c0 HE
      clear hop hI
      obtain ⟨j, rfl⟩ : ∃ j, i = j + 1 := ⟨i - 1, by omega⟩
      rw [Nat.add_sub_cancel] at c0
      by_cases h8 : op = 8
      · subst h8
        go_wp2
        go_ret
        exact ⟨by rw [HE.out]; rfl, HB.out⟩
      · have d8 : (op != 8) = true := by rw [bne_iff_ne]; exact h8
        go_wp2
        go_ret
        exact ⟨by rw [HE.out, if_neg h8]; rfl, HB.out⟩
end Go.Proofs.Ytlpcjonklfnejaa
