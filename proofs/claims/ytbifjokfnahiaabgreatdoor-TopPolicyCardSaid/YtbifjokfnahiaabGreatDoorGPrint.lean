/- The bytes of a pattern: from 33 to 126, none is a quote. -/
import Derived.Test.YtbifjokfnahiaabGreatDoorK5
namespace Go.Proofs.YtbifjokfnahiaabGreatDoor.Gl
open Go.RowKit

def printB (n : Nat) : Prop := 33 ≤ n ∧ n ≤ 126 ∧ n ≠ 34
theorem name_print {n : Nat} (h : nameB n = true) : printB n := by
  simp [nameB] at h
  unfold printB
  omega
theorem sign_print {n : Nat} (h : signB n = true) : printB n := by
  simp [signB] at h
  unfold printB
  omega
theorem plain_print {n : Nat} (h : plainB n = true) : printB n := by
  simp [plainB] at h
  unfold printB
  omega
theorem member_print (s : ByteArray) (a : Nat) (ha : a < s.size) (h : memberAt s a ≠ 0) : ∀ i, a ≤ i → i < a + memberAt s a → printB (byteAt s i) := by
  intro i h1 h2
  unfold memberAt memberN at h h2
  by_cases n0 : nameB (byteAt s a) = true
  · have p0 := name_print n0
    rw [if_pos n0] at h h2
    by_cases h3 : s.size - a < 2
    · rw [if_pos h3] at h2
      obtain rfl : i = a := by omega
      exact p0
    · rw [if_neg h3] at h h2
      by_cases h4 : byteAt s (a + 1) = 45
      · rw [if_pos h4] at h h2
        by_cases h5 : s.size - a < 3
        · rw [if_pos h5] at h; exact absurd rfl h
        · rw [if_neg h5] at h h2
          by_cases h6 : nameB (byteAt s (a + 2)) = true
          · rw [if_pos h6] at h h2
            by_cases h7 : byteAt s (a + 2) < byteAt s a
            · rw [if_pos h7] at h; exact absurd rfl h
            · rw [if_neg h7] at h2
              have p2 := name_print h6
              rcases (by omega : i = a ∨ i = a + 1 ∨ i = a + 2) with rfl | rfl | rfl
              · exact p0
              · rw [h4]; unfold printB; omega
              · exact p2
          · rw [if_neg h6] at h; exact absurd rfl h
      · rw [if_neg h4] at h2
        obtain rfl : i = a := by omega
        exact p0
  · rw [if_neg n0] at h; exact absurd rfl h
theorem scan_print : ∀ (k : Nat) (s : ByteArray) (a : Nat) (f : Nat → Bool) (b : Nat) (g : Nat → Bool), scan k s a f = some (b, g) → (∀ i, a ≤ i → i < b → printB (byteAt s i)) ∧ (b < s.size → byteAt s b = 93)
  | 0, _, _, _, _, _, h => by simp [scan] at h
  | k + 1, s, a, f, b, g, h => by
    rw [scan] at h
    split at h
    · rename_i hc
      split at h
      · simp at h
      · rename_i hm
        have ih := scan_print k s _ _ b g h
        refine ⟨fun i h1 h2 => ?_, ih.2⟩
        by_cases hi : i < a + memberAt s a
        · exact member_print s a hc.1 hm i h1 hi
        · exact ih.1 i (by omega) h2
    · rename_i hc
      simp only [Option.some.injEq, Prod.mk.injEq] at h
      obtain ⟨rfl, _⟩ := h
      refine ⟨fun i h1 h2 => by omega, fun hb => ?_⟩
      exact Classical.byContradiction fun hn => hc ⟨hb, hn⟩
theorem first_print {s : ByteArray} {f : Nat → Bool} {m : Bool} {n : Nat} (h : firstR s = some (f, m, n)) : ∀ i, i < n → printB (byteAt s i) := by
  unfold firstR at h
  split at h
  · rename_i hst
    simp only [starsB, Bool.and_eq_true, decide_eq_true_eq, beq_iff_eq] at hst
    simp only [Option.some.injEq, Prod.mk.injEq] at h
    intro i hi
    rcases (by omega : i = 0 ∨ i = 1) with rfl | rfl
    · rw [hst.1.2]; unfold printB; omega
    · rw [hst.2]; unfold printB; omega
  · split at h
    · rename_i h0
      simp only [Option.some.injEq, Prod.mk.injEq] at h
      intro i hi
      obtain rfl : i = 0 := by omega
      rw [h0]; unfold printB; omega
    · split at h
      · rename_i h0
        simp only [Option.some.injEq, Prod.mk.injEq] at h
        intro i hi
        obtain rfl : i = 0 := by omega
        rw [h0]; unfold printB; omega
      · split at h
        · rename_i h0
          unfold classP at h
          cases hc : classR s with
          | none => simp [hc] at h
          | some x =>
            obtain ⟨g, k⟩ := x
            simp only [hc, Option.map_some, Option.some.injEq, Prod.mk.injEq] at h
            obtain ⟨rfl, rfl, rfl⟩ := h
            unfold classR at hc
            cases hsc : scan (s.size + 1) s (classBegin s) fun _ => false with
            | none => simp [hsc, classFin] at hc
            | some y =>
              obtain ⟨b, g'⟩ := y
              have hp := scan_print _ _ _ _ _ _ hsc
              simp only [hsc, classFin] at hc
              split at hc
              · simp at hc
              · rename_i hb
                simp only [Option.some.injEq, Prod.mk.injEq] at hc
                have hcb : classBegin s ≤ s.size ∧ (classBegin s = 1 ∨ classBegin s = 2 ∧ byteAt s 1 = 33) := by
                  unfold classBegin
                  split
                  · rename_i hn
                    simp only [notB, Bool.and_eq_true, decide_eq_true_eq, beq_iff_eq] at hn
                    exact ⟨by omega, .inr ⟨rfl, hn.2⟩⟩
                  · refine ⟨?_, .inl rfl⟩
                    by_cases hs : s.size = 0
                    · have : byteAt s 0 = 0 := by unfold byteAt; rw [Lib.size_eq] at hs; rw [List.length_eq_zero_iff.1 hs]; rfl
                      omega
                    · omega
                have hle := scan_le _ _ _ _ _ _ hcb.1 hsc
                have h93 := hp.2 (by omega)
                intro i hi
                by_cases h1 : i < classBegin s
                · rcases (by omega : i = 0 ∨ i = 1 ∧ byteAt s 1 = 33) with rfl | ⟨rfl, h33⟩
                  · rw [h0]; unfold printB; omega
                  · rw [h33]; unfold printB; omega
                · by_cases h2 : i < b
                  · exact hp.1 i (by omega) h2
                  · obtain rfl : i = b := by omega
                    rw [h93]; unfold printB; omega
        · split at h
          · rename_i h0
            unfold escR at h
            split at h
            · rename_i he
              simp only [Option.some.injEq, Prod.mk.injEq] at h
              intro i hi
              rcases (by omega : i = 0 ∨ i = 1) with rfl | rfl
              · rw [h0]; unfold printB; omega
              · exact sign_print he.2
            · simp at h
          · split at h
            · rename_i h0
              simp only [Option.some.injEq, Prod.mk.injEq] at h
              intro i hi
              obtain rfl : i = 0 := by omega
              exact plain_print h0
            · simp at h
theorem parts_print : ∀ (k : Nat) (s : ByteArray) (a : Nat) (ps : List Part), a ≤ s.size → partsR k s a = some ps → ∀ i, a ≤ i → i < s.size → printB (byteAt s i)
  | 0, _, _, _, _, h => by simp [partsR] at h
  | k + 1, s, a, ps, ha, h => by
    rw [partsR] at h
    split at h
    · rename_i hlt
      split at h
      · simp at h
      · rename_i f m n hf
        have hb := firstR_bound (by rw [size_extract]; omega) hf
        rw [size_extract] at hb
        cases hr : partsR k s (a + n) with
        | none => simp [hr] at h
        | some qs =>
          intro i h1 h2
          by_cases hi : i < a + n
          · have := first_print hf (i - a) (by omega)
            rwa [byteAt_extract s a (i - a) ha, show a + (i - a) = i by omega] at this
          · exact parts_print k s (a + n) qs (by omega) hr i (by omega) h2
    · intro i h1 h2; omega
theorem parse_print {p : ByteArray} {ps : List Part} (h : parseR p = .inr ps) : ∀ b ∈ p.data.toList, printB b.toNat := by
  unfold parseR at h
  split at h
  · cases h
  · split at h
    · cases h
    · split at h
      · cases h
      · rename_i qs hq
        intro b hb
        obtain ⟨i, hi, rfl⟩ := List.mem_iff_getElem.1 hb
        have := parts_print _ p 0 qs (Nat.zero_le _) hq i (Nat.zero_le _) (by rw [Lib.size_eq]; exact hi)
        unfold byteAt at this
        rwa [List.getD_eq_getElem?_getD, List.getElem?_eq_getElem hi, Option.getD_some] at this
theorem parse_size {p : ByteArray} {ps : List Part} (h : parseR p = .inr ps) : p.size ≤ 24 ∧ p.size ≠ 0 := by
  unfold parseR at h
  split at h
  · cases h
  · split at h
    · cases h
    · omega
end Go.Proofs.YtbifjokfnahiaabGreatDoor.Gl
