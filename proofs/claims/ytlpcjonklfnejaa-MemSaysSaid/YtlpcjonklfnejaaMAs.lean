/- asMem, stays. -/
import Derived.Test.YtlpcjonklfnejaaMBoth
namespace Go.Proofs.Ytlpcjonklfnejaa
open Go.RowKit

/-- Only blocks g and h, and new ones, have turned. -/
structure Kp (g h : Nat) (W w' : World) : Prop where
  os : w'.os = W.os
  tape : w'.tape = W.tape
  output : w'.output = W.output
  size : W.heap.size ≤ w'.heap.size
  block : ∀ j, j < W.heap.size → j ≠ g → j ≠ h → w'.heap[j]? = W.heap[j]?
theorem Kp.refl (g h : Nat) (W : World) : Kp g h W W := ⟨rfl, rfl, rfl, Nat.le_refl _, fun _ _ _ _ => rfl⟩
theorem Kp.trans {g h : Nat} {a b c : World} (x : Kp g h a b) (y : Kp g h b c) : Kp g h a c :=
  ⟨y.os.trans x.os, y.tape.trans x.tape, y.output.trans x.output, Nat.le_trans x.size y.size, fun j hj h1 h2 => (y.block j (Nat.lt_of_lt_of_le hj x.size) h1 h2).trans (x.block j hj h1 h2)⟩
theorem Kp.ofG {g h : Nat} {W w' : World} (x : W.grownBy w' (some g)) : Kp g h W w' := ⟨x.os, x.tape, x.output, x.size, fun j hj h1 _ => x.block j hj fun e => h1 (Option.some.inj e)⟩
theorem Kp.ofH {g h : Nat} {W w' : World} (x : W.grownBy w' (some h)) : Kp g h W w' := ⟨x.os, x.tape, x.output, x.size, fun j hj _ h2 => x.block j hj fun e => h2 (Option.some.inj e)⟩
theorem Kp.ofB {g h : Nat} {W w' : World} (x : Below W.heap.size W w') : Kp g h W w' := ⟨x.os, x.tape, x.output, x.size, fun j hj _ _ => x.block j hj⟩
theorem Kp.cell {g h : Nat} {W w' : World} (x : Kp g h W w') (b j : Nat) (hb : b < W.heap.size) (h1 : b ≠ g) (h2 : b ≠ h) : w'.cell? ⟨b, j, none⟩ = W.cell? ⟨b, j, none⟩ := World.cell?_of_block (w := W) (x.block b hb h1 h2)
theorem IsR.keep {g h : Nat} {r : RS} {W w' : World} (x : IsR h r W) (y : W.grownBy w' (some g)) (hne : h ≠ g) : IsR h r w' := (y.block h x.lt fun e => hne (Option.some.inj e)).trans x
theorem IsM.keep {g h : Nat} {m : MS} {W w' : World} (x : IsM g m W) (y : W.grownBy w' (some h)) (hne : g ≠ h) : IsM g m w' := (y.block g x.lt fun e => hne (Option.some.inj e)).trans x

set_option maxRecDepth 20000 in
theorem asMem_any {m : MS} {r : RS} (h : Rel m r) {g g' : Nat} (hne : g ≠ g') {W : World} (hM : IsM g m W) (hR : IsR g' r W) :
    Calls Try.prog 38 #[.pointer (some ⟨g, 0, none⟩), .pointer (some ⟨g', 0, none⟩)] W fun e w' => e = .returned (.bool true) ∧ IsM g m w' ∧ IsR g' r w' ∧ Kp g g' W w' := by
  obtain ⟨x, hx4, HS, HT⟩ := both_sealed h g g'
  have HH := hide h
  clear h
  have HNE := hide hne
  go_enter Try.func38, Try.ntmps38
  go_wp2_with fail
  refine (HS _ hM).mono ?_
  rintro e w1 ⟨rfl, hM1, hg1⟩
  have hR1 := hide (hR.keep hg1 (Ne.symm hne))
  replace hM1 := hide hM1
  have hK1 := hide (Kp.ofG (h := g') hg1)
  clear hg1 hM hR
  go_wp2_with fail
  refine (HT _ hR1.out).mono ?_
  rintro e w2 ⟨rfl, hR2, hg2⟩
  have hM2 := hide (hM1.out.keep hg2 HNE.out)
  replace hR2 := hide hR2
  have hK2 := hide (hK1.out.trans (Kp.ofH (g := g) hg2))
  clear hg2 hK1 hM1 hR1 HS HT
  go_wp2
  go_loopw [5] (fun A wr => ∃ a : Nat, a ≤ 768 ∧ A = .int .u64 a ∧ Hid (IsM g m wr) ∧ Hid (IsR g' r wr) ∧ Hid (Kp g g' W wr)) (fun A _ => 768 - (intOf A).toNat)
  case atStart => exact ⟨0, by omega, rfl, hM2, hR2, hK2⟩
  case round =>
    obtain ⟨a, ha, rfl, HM, HR, HK⟩ := hrel
    by_cases hlt : a < 768
    · obtain ⟨f, y, HC, HD⟩ := both_byte HH.out g g' a (by omega)
      go_wp2_with fail
      refine (HC _ HM.out).mono ?_
      rintro e w3 ⟨rfl, hM3, hg3⟩
      have hR3 := hide (HR.out.keep hg3 (Ne.symm HNE.out))
      replace hM3 := hide hM3
      have hK3 := hide (HK.out.trans (Kp.ofG (h := g') hg3))
      clear hg3
      go_wp2_with fail
      refine (HD _ hR3.out).mono ?_
      rintro e w4 ⟨rfl, hR4, hg4⟩
      have hM4 := hide (hM3.out.keep hg4 HNE.out)
      replace hR4 := hide hR4
      have hK4 := hide (hK3.out.trans (Kp.ofH (g := g) hg4))
      clear hg4 HC HD
      go_wp2_with fail
      refine (same_err f _).mono ?_
      rintro e w' ⟨rfl, rfl⟩
      go_wp2
      go_round
      case rel => exact ⟨a + 1, by omega, by go_num, hM4, hR4, hK4⟩
      case measure => simp [intOf]; omega
    · obtain rfl : a = 768 := by omega
      go_wp2
      go_ret
      exact ⟨rfl, HM.out, HR.out, HK.out⟩

def helloM : MS := writeBy (setWt (setRd zeroM 1 true) 1 true) 70 [104, 101, 108, 108, 111]
theorem hello_text : textP (peek helloM) 70 41 0 [] = (0, [104, 101, 108, 108, 111]) := by decide +kernel
theorem stays_any (W : World) : Calls Try.prog 18 #[] W fun e w' => e = .returned (.bool true) ∧ Below W.heap.size W w' := by
  have HTX := hide hello_text
  go_enter Try.func18, Try.ntmps18
  go_wp2_with fail
  obtain ⟨g, hg⟩ : ∃ g, g = W.heap.size := ⟨_, rfl⟩
  refine (new_any _).mono ?_
  rw [← hg]
  rintro e w1 ⟨rfl, hb1, hM1⟩
  replace hg := hide hg
  have hB := PW_of hM1
  have C1 := map_ok ⟨w1, g, zeroM, hM1⟩ zeroM 0 1 (by omega) true
  rw [← hB] at C1
  simp only at C1
  clear hB
  go_wp2_with fail
  refine C1.mono ?_
  rintro e w2 ⟨rfl, k2, hw2⟩
  clear C1
  have hM2 : IsM g (setWt (setRd zeroM 1 true) 1 true) w2 := by rw [hw2]; exact PW_isM ⟨w1, g, zeroM, hM1⟩ _ _
  have hb2 := hide (show Below g W w2 by rw [hw2]; exact (hb1.mono (by rw [hg.out]; exact Nat.le_refl _)).trans (PW_below ⟨w1, g, zeroM, hM1⟩ _ _ _ (Nat.le_refl _)))
  clear hw2 hb1 hM1
  have hB := PW_of hM2
  have C2 := put_ok ⟨w2, g, _, hM2⟩ (setWt (setRd zeroM 1 true) 1 true) 0 70 ⟨#[104, 101, 108, 108, 111]⟩ (by decide) (by decide) (fun i hi => by
    have hc : i = 0 ∨ i = 1 ∨ i = 2 ∨ i = 3 ∨ i = 4 := by have : i < 5 := hi; omega
    rcases hc with rfl | rfl | rfl | rfl | rfl <;> exact ⟨by decide, by decide⟩)
  rw [← hB] at C2
  simp only at C2
  clear hB
  go_wp2_with fail
  refine C2.mono ?_
  rintro e w3 ⟨rfl, k3, hw3⟩
  clear C2
  have hM3 : IsM g helloM w3 := by rw [hw3]; exact PW_isM ⟨w2, g, _, hM2⟩ _ _
  have hb3 := hide (show Below g W w3 by rw [hw3]; exact hb2.out.trans (PW_below ⟨w2, g, _, hM2⟩ _ _ _ (Nat.le_refl _)))
  clear hw3 hb2 hM2
  have C3 := text_any hM3 70 (by decide) (fun x => bytesOk_write (m := setWt (setRd zeroM 1 true) 1 true) bytesOk_zero _ _ x)
  rw [HTX.out] at C3
  go_wp2_with fail
  refine C3.mono ?_
  rintro e w4 ⟨rfl, hb4⟩
  have hb5 := hide (show Below W.heap.size W w4 by rw [← hg.out]; exact hb3.out.trans (hb4.mono (Nat.le_of_lt hM3.lt)))
  clear C3 hb4 hb3 hM3
  simp only [textV, bytesOf]
  go_wp2_with (go_at_call 11; refine (same_nil _ _).mono ?_; rintro e w' ⟨rfl, rfl⟩)
  go_ret
  exact ⟨rfl, hb5.out⟩
end Go.Proofs.Ytlpcjonklfnejaa
