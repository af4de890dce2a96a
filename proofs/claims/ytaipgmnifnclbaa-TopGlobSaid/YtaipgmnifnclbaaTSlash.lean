/- Without two stars side by side a text has just the slashes that its pattern has. -/
import Derived.Test.YtaipgmnifnclbaaTReach
namespace Go.Proofs.Ytaipgmnifnclbaa
open Go.RowKit

theorem name_noslash {b : Nat} (h : nameB b = true) : b ≠ 47 := by
  intro e
  subst e
  exact absurd h (by decide)
theorem member_bytes {s : ByteArray} {a : Nat} (h : memberAt s a ≠ 0) : nameB (byteAt s a) = true ∧ (memberAt s a = 1 ∨ (memberAt s a = 3 ∧ byteAt s (a + 1) = 45 ∧ nameB (byteAt s (a + 2)) = true)) := by
  unfold memberAt memberN at *
  by_cases a1 : nameB (byteAt s a) = true <;> by_cases b : s.size - a < 2 <;> by_cases c : s.size - a < 3 <;> by_cases d : nameB (byteAt s (a + 2)) = true <;> by_cases e : byteAt s (a + 2) < byteAt s a <;> by_cases h45 : byteAt s (a + 1) = 45 <;> simp [a1, b, c, d, e, h45] at h ⊢
theorem scan_noslash : ∀ (k : Nat) (s : ByteArray) (a : Nat) (g : Nat → Bool) (e : Nat) (fe : Nat → Bool), scan k s a g = some (e, fe) → ∀ x, a ≤ x → x < e → byteAt s x ≠ 47
  | 0, _, _, _, _, _, h => by simp [scan] at h
  | k + 1, s, a, g, e, fe, h => by
    intro x h1 h2
    rcases scan_inv h with ⟨rfl, _, _⟩ | ⟨_, _, hm, h'⟩
    · omega
    · obtain ⟨n0, hM⟩ := member_bytes hm
      by_cases hx : a + memberAt s a ≤ x
      · exact scan_noslash k s _ _ e fe h' x hx h2
      · rcases hM with h3 | ⟨h3, h45, n2⟩
        · obtain rfl : x = a := by omega
          exact name_noslash n0
        · by_cases x0 : x = a
          · subst x0; exact name_noslash n0
          · by_cases x1 : x = a + 1
            · subst x1; omega
            · obtain rfl : x = a + 2 := by omega
              exact name_noslash n2

theorem cnt_zero (s : ByteArray) (n : Nat) (h : ∀ y, y < n → byteAt s y ≠ 47) : cnt s n = 0 := by
  have := cnt_none s n 0 (fun y _ b => h y (by omega))
  simpa [cnt] using this
theorem cnt_extract (p : ByteArray) (a : Nat) (ha : a ≤ p.size) : ∀ n, cnt p (a + n) = cnt p a + cnt (p.extract a p.size) n
  | 0 => rfl
  | n + 1 => by
    rw [show a + (n + 1) = (a + n) + 1 by omega, cnt, cnt, cnt_extract p a ha n, byteAt_extract p a n ha]
    omega

theorem firstR_tame {s : ByteArray} (hs : 1 ≤ s.size) {f : Nat → Bool} {m : Bool} {n : Nat} (hno : ¬ starsB s = true) (h : firstR s = some (f, m, n)) : Tame f m ∧ cnt s n = if m = false ∧ f 47 = true then 1 else 0 := by
  unfold firstR at h
  rw [if_neg hno] at h
  split at h
  · rename_i h42
    simp only [Option.some.injEq, Prod.mk.injEq] at h
    obtain ⟨rfl, rfl, rfl⟩ := h
    refine ⟨⟨fun _ => by simp [notF, onlyF, upd], fun h => by simp at h⟩, ?_⟩
    rw [if_neg (by simp)]
    exact cnt_zero s 1 (fun y hy => by rw [show y = 0 by omega]; omega)
  · split at h
    · rename_i h63
      simp only [Option.some.injEq, Prod.mk.injEq] at h
      obtain ⟨rfl, rfl, rfl⟩ := h
      have f47 : notF (onlyF 47) 47 = false := by simp [notF, onlyF, upd]
      refine ⟨⟨fun h => by simp at h, fun _ h => by rw [f47] at h; simp at h⟩, ?_⟩
      rw [if_neg (by rw [f47]; simp)]
      exact cnt_zero s 1 (fun y hy => by rw [show y = 0 by omega]; omega)
    · split at h
      · rename_i h91
        unfold classP at h
        cases hc : classR s with
        | none => rw [hc] at h; simp at h
        | some x =>
          obtain ⟨g, k⟩ := x
          rw [hc] at h
          simp only [Option.map_some, Option.some.injEq, Prod.mk.injEq] at h
          obtain ⟨rfl, rfl, rfl⟩ := h
          obtain ⟨e, fe, hsc, rfl, hB, he, h93, rfl⟩ := classR_some hs hc
          have f47 : ∀ g : Nat → Bool, upd g 47 false 47 = false := fun g => by simp [upd]
          refine ⟨⟨fun h => by simp at h, fun _ h => by rw [f47] at h; simp at h⟩, ?_⟩
          rw [if_neg (by rw [f47]; simp)]
          have hns := scan_noslash _ _ _ _ _ _ hsc
          refine cnt_zero s (e + 1) (fun y hy => ?_)
          by_cases y0 : y = 0
          · subst y0; omega
          · by_cases ye : y = e
            · subst ye; omega
            · by_cases yb : classBegin s ≤ y
              · exact hns y yb (by omega)
              · unfold classBegin at yb
                split at yb
                · rename_i hn
                  obtain rfl : y = 1 := by omega
                  unfold notB at hn
                  simp at hn
                  omega
                · omega
      · split at h
        · rename_i h92
          unfold escR at h
          split at h
          · rename_i h2
            simp only [Option.some.injEq, Prod.mk.injEq] at h
            obtain ⟨rfl, rfl, rfl⟩ := h
            have b1 : byteAt s 1 ≠ 47 := fun e => by
              have := h2.2
              rw [e] at this
              exact absurd this (by decide)
            have f47 : onlyF (byteAt s 1) 47 = false := by simp only [onlyF, upd]; rw [if_neg (fun e => b1 e.symm)]
            refine ⟨⟨fun h => by simp at h, fun _ h => by rw [f47] at h; simp at h⟩, ?_⟩
            rw [if_neg (by rw [f47]; simp)]
            refine cnt_zero s 2 (fun y hy => ?_)
            by_cases y0 : y = 0
            · subst y0; omega
            · obtain rfl : y = 1 := by omega
              exact b1
          · simp at h
        · split at h
          · simp only [Option.some.injEq, Prod.mk.injEq] at h
            obtain ⟨rfl, rfl, rfl⟩ := h
            have fc : ∀ c, onlyF (byteAt s 0) c = true ↔ c = byteAt s 0 := fun c => by
              simp only [onlyF, upd]
              by_cases hc : c = byteAt s 0
              · simp [hc]
              · simp [hc]
            refine ⟨⟨fun h => by simp at h, fun _ h c hc => ?_⟩, ?_⟩
            · rw [fc] at h hc; omega
            · simp only [cnt, Nat.zero_add]
              by_cases h47 : byteAt s 0 = 47
              · rw [if_pos h47, if_pos ⟨trivial, (fc 47).2 h47.symm⟩]
              · rw [if_neg h47, if_neg (fun x => h47 ((fc 47).1 x.2).symm)]
          · simp at h

theorem cntP_cons (x : Part) (r : List Part) : ∀ n, cntP (x :: r) (n + 1) = (if x.2 = false ∧ x.1 47 = true then 1 else 0) + cntP r n
  | 0 => by simp [cntP, likeAt, manyAt]
  | n + 1 => by
    rw [cntP, cntP_cons x r n, cntP]
    have h1 : manyAt (x :: r) (n + 1) = manyAt r n := rfl
    have h2 : likeAt (x :: r) (n + 1) = likeAt r n := rfl
    rw [h1, h2]
    omega

/-- No two stars side by side. -/
def NoTwo (p : ByteArray) : Prop := ∀ i, i + 1 < p.size → ¬ (byteAt p i = 42 ∧ byteAt p (i + 1) = 42)

theorem partsR_cnt : ∀ (k : Nat) (p : ByteArray) (a : Nat) (ps : List Part), NoTwo p → a ≤ p.size → partsR k p a = some ps → (∀ i, i < ps.length → Tame (likeAt ps i) (manyAt ps i)) ∧ cnt p p.size = cnt p a + cntP ps ps.length
  | 0, _, _, _, _, _, h => by simp [partsR] at h
  | k + 1, p, a, ps, hno, ha, h => by
    rw [partsR] at h
    split at h
    · rename_i hlt
      split at h
      · simp at h
      · rename_i f m n hF
        cases hr : partsR k p (a + n) with
        | none => rw [hr] at h; simp at h
        | some r =>
          rw [hr] at h
          simp only [Option.map_some, Option.some.injEq] at h
          subst h
          have hs : 1 ≤ (p.extract a p.size).size := by rw [size_extract]; omega
          have hbd := firstR_bound hs hF
          rw [size_extract] at hbd
          have hns : ¬ starsB (p.extract a p.size) = true := by
            unfold starsB
            rw [size_extract, byteAt_extract p a 0 ha, byteAt_extract p a 1 ha]
            intro h2
            simp only [Bool.and_eq_true, decide_eq_true_eq, beq_iff_eq, Nat.add_zero] at h2
            exact hno a (by omega) ⟨h2.1.2, h2.2⟩
          obtain ⟨t1, t2⟩ := firstR_tame hs hns hF
          obtain ⟨i1, i2⟩ := partsR_cnt k p (a + n) r hno (by omega) hr
          refine ⟨fun i hi => ?_, ?_⟩
          · cases i with
            | zero => exact t1
            | succ i => exact i1 i (by simpa using hi)
          · rw [i2, cnt_extract p a ha n, t2, List.length_cons, cntP_cons]
            show _ = _ + ((if m = false ∧ f 47 = true then 1 else 0) + _)
            omega
    · simp only [Option.some.injEq] at h
      subst h
      refine ⟨fun i hi => by simp at hi, ?_⟩
      have e : a = p.size := by omega
      rw [e]
      rfl

theorem match_cnt {p s : ByteArray} (hno : NoTwo p) (h : matchR p s = true) : cnt s s.size = cnt p p.size := by
  unfold matchR at h
  cases hP : parseR p with
  | inl n => rw [hP] at h; simp at h
  | inr ps =>
    rw [hP] at h
    simp only [runTo_reach] at h
    obtain ⟨_, _, h3⟩ := parseR_parts hP
    obtain ⟨t, c⟩ := partsR_cnt _ p 0 ps hno (by omega) h3
    have := reach_cnt ps s t ps.length (Nat.le_refl _) s.size h
    rw [this, c]
    simp [cnt]
end Go.Proofs.Ytaipgmnifnclbaa
