/- The parts of two patterns one behind the other; what is like them. -/
import Derived.Test.YtaipgmnifnclbaaGSays
namespace Go.Proofs.Ytaipgmnifnclbaa
open Go.RowKit

theorem data_append (p q : ByteArray) : (p ++ q).data.toList = p.data.toList ++ q.data.toList := by simp
theorem byteAt_left (p q : ByteArray) (i : Nat) (h : i < p.size) : byteAt (p ++ q) i = byteAt p i := by
  unfold byteAt
  rw [data_append, List.getD_eq_getElem?_getD, List.getElem?_append_left (by rw [← Lib.size_eq]; exact h), ← List.getD_eq_getElem?_getD]
theorem byteAt_right (p q : ByteArray) (i : Nat) : byteAt (p ++ q) (p.size + i) = byteAt q i := by
  unfold byteAt
  rw [data_append, List.getD_eq_getElem?_getD, List.getElem?_append_right (by rw [← Lib.size_eq]; omega), ← Lib.size_eq, Nat.add_sub_cancel_left, ← List.getD_eq_getElem?_getD]
theorem size_both (p q : ByteArray) : (p ++ q).size = p.size + q.size := by simp
theorem extract_left (p q : ByteArray) (a : Nat) (h : a ≤ p.size) : (p ++ q).extract a (p ++ q).size = p.extract a p.size ++ q := by
  apply ByteArray.ext
  apply Array.ext'
  have h1 : (p.extract a p.size ++ q).data.toList = (p.extract a p.size).data.toList ++ q.data.toList := data_append _ _
  rw [h1, Lib.extract_data, Lib.extract_data, data_append, size_both]
  have hp := Lib.size_eq p
  have hq := Lib.size_eq q
  rw [List.drop_append_of_le_length (by omega), List.take_of_length_le (by simp; omega), List.take_of_length_le (by simp)]
theorem extract_right (p q : ByteArray) (b : Nat) : (p ++ q).extract (p.size + b) (p ++ q).size = q.extract b q.size := by
  apply ByteArray.ext
  apply Array.ext'
  rw [Lib.extract_data, Lib.extract_data, data_append, size_both]
  have hp := Lib.size_eq p
  have hq := Lib.size_eq q
  rw [List.drop_append, List.drop_of_length_le (by omega), List.nil_append, List.take_of_length_le (by simp; omega), List.take_of_length_le (by simp)]
  congr 1
  omega

theorem memberAt_left (s q : ByteArray) (a : Nat) (h : memberAt s a ≠ 0) (hlt : a + memberAt s a < s.size) : memberAt (s ++ q) a = memberAt s a := by
  have h1 : a + 1 < s.size := by omega
  have e0 := byteAt_left s q a (by omega)
  have e1 := byteAt_left s q (a + 1) h1
  rcases memberAt_dash h h1 with ⟨h45, h3, h2⟩ | ⟨h45, hone⟩
  · have e2 := byteAt_left s q (a + 2) h2
    rw [h3]
    unfold memberAt memberN at h3 ⊢
    rw [if_neg (show ¬ s.size - a < 2 by omega), if_pos h45, if_neg (show ¬ s.size - a < 3 by omega)] at h3
    rw [e0, e1, e2, size_both, if_neg (show ¬ s.size + q.size - a < 2 by omega), if_pos h45, if_neg (show ¬ s.size + q.size - a < 3 by omega)]
    exact h3
  · rw [hone]
    unfold memberAt memberN at hone ⊢
    rw [if_neg (show ¬ s.size - a < 2 by omega), if_neg h45] at hone
    rw [e0, e1, size_both, if_neg (show ¬ s.size + q.size - a < 2 by omega), if_neg h45]
    exact hone

theorem scan_left : ∀ (k : Nat) (s q : ByteArray) (a : Nat) (g : Nat → Bool) (e : Nat) (fe : Nat → Bool), e < s.size → scan k s a g = some (e, fe) → scan k (s ++ q) a g = some (e, fe)
  | 0, _, _, _, _, _, _, _, h => by simp [scan] at h
  | k + 1, s, q, a, g, e, fe, he, h => by
    rcases scan_inv h with ⟨rfl, rfl, hn⟩ | ⟨hlt, hne, hm, h'⟩
    · rw [scan, if_neg]
      rw [byteAt_left s q a he]
      intro h2
      exact hn ⟨he, h2.2⟩
    · have hge := scan_ge _ _ _ _ _ _ h'
      have hml := memberAt_left s q a hm (by omega)
      rw [scan, if_pos ⟨by rw [size_both]; omega, by rw [byteAt_left s q a hlt]; exact hne⟩, hml, if_neg hm, byteAt_left s q a hlt, byteAt_left s q _ (by omega)]
      exact scan_left k s q _ _ e fe he h'
theorem scan_more : ∀ (k : Nat) (s : ByteArray) (a : Nat) (g : Nat → Bool) (r : Nat × (Nat → Bool)) (j : Nat), scan k s a g = some r → scan (k + j) s a g = some r
  | 0, _, _, _, _, _, h => by simp [scan] at h
  | k + 1, s, a, g, r, j, h => by
    rw [show k + 1 + j = (k + j) + 1 by omega]
    rw [scan] at h ⊢
    split at h
    · rename_i hc
      rw [if_pos hc]
      split at h
      · simp at h
      · rename_i hm
        rw [if_neg hm]
        exact scan_more k s _ _ r j h
    · rename_i hc
      rw [if_neg hc]
      exact h

theorem classR_left (s q : ByteArray) (hs : 1 ≤ s.size) (f : Nat → Bool) (n : Nat) (h : classR s = some (f, n)) : classR (s ++ q) = some (f, n) := by
  obtain ⟨e, fe, hsc, rfl, hB, he, h93, rfl⟩ := classR_some hs h
  have hB1 : 1 ≤ classBegin s := by unfold classBegin; split <;> omega
  have hn : notB (s ++ q) = notB s := by
    unfold notB
    rw [size_both, byteAt_left s q 1 (by omega)]
    congr 1
    rw [decide_eq_decide]
    omega
  have hb : classBegin (s ++ q) = classBegin s := by unfold classBegin; rw [hn]
  unfold classR
  rw [hn, hb, size_both]
  have := scan_more _ _ _ _ _ q.size (scan_left _ s q _ _ e fe he hsc)
  rw [show s.size + q.size + 1 = s.size + 1 + q.size by omega, this]
  simp only [classFin]
  rw [if_neg (by omega)]

theorem firstR_left (s q : ByteArray) (hs : 1 ≤ s.size) (f : Nat → Bool) (m : Bool) (n : Nat) (h : firstR s = some (f, m, n)) (hx : ¬ (s.size = 1 ∧ byteAt s 0 = 42 ∧ 1 ≤ q.size ∧ byteAt q 0 = 42)) : firstR (s ++ q) = some (f, m, n) := by
  have e0 := byteAt_left s q 0 (by omega)
  have hst : byteAt s 0 ≠ 42 → ¬ starsB (s ++ q) = true := by
    intro h42 h2
    unfold starsB at h2
    rw [e0] at h2
    simp [h42] at h2
  unfold firstR at h ⊢
  rw [e0]
  split at h
  · rename_i h2
    have : starsB (s ++ q) = true := by
      unfold starsB at h2 ⊢
      simp only [Bool.and_eq_true, decide_eq_true_eq, beq_iff_eq] at h2 ⊢
      rw [e0, byteAt_left s q 1 (by omega), size_both]
      exact ⟨⟨by omega, h2.1.2⟩, h2.2⟩
    rw [if_pos this]
    exact h
  · rename_i h2
    split at h
    · rename_i h42
      have : ¬ starsB (s ++ q) = true := by
        intro h3
        unfold starsB at h2 h3
        simp only [Bool.and_eq_true, decide_eq_true_eq, beq_iff_eq] at h2 h3
        rw [size_both] at h3
        by_cases h1 : s.size = 1
        · have e1 := byteAt_right s q 0
          rw [h1] at e1
          exact hx ⟨h1, h42, by omega, by rw [← e1]; exact h3.2⟩
        · rw [byteAt_left s q 1 (by omega)] at h3
          exact h2 ⟨⟨by omega, h42⟩, h3.2⟩
      rw [if_neg this, if_pos h42]
      exact h
    · rename_i h42
      rw [if_neg (hst h42), if_neg h42]
      split at h
      · rename_i h63
        rw [if_pos h63]
        exact h
      · rename_i h63
        rw [if_neg h63]
        split at h
        · rename_i h91
          rw [if_pos h91]
          unfold classP at h ⊢
          cases hc : classR s with
          | none => rw [hc] at h; simp at h
          | some x =>
            obtain ⟨g, k⟩ := x
            rw [hc] at h
            rw [classR_left s q hs g k hc]
            exact h
        · rename_i h91
          rw [if_neg h91]
          split at h
          · rename_i h92
            rw [if_pos h92]
            unfold escR at h ⊢
            split at h
            · rename_i h3
              rw [byteAt_left s q 1 (by omega), size_both, if_pos ⟨by omega, h3.2⟩]
              exact h
            · simp at h
          · rename_i h92
            rw [if_neg h92]
            exact h

theorem partsR_more : ∀ (k : Nat) (p : ByteArray) (a : Nat) (ps : List Part) (j : Nat), partsR k p a = some ps → partsR (k + j) p a = some ps
  | 0, _, _, _, _, h => by simp [partsR] at h
  | k + 1, p, a, ps, j, h => by
    rw [show k + 1 + j = (k + j) + 1 by omega]
    rw [partsR] at h ⊢
    split at h
    · rename_i hlt
      rw [if_pos hlt]
      split at h
      · simp at h
      · rename_i f m n hF
        cases hr : partsR k p (a + n) with
        | none => rw [hr] at h; simp at h
        | some r =>
          rw [hr] at h
          rw [partsR_more k p (a + n) r j hr]
          exact h
    · rename_i hlt
      rw [if_neg hlt]
      exact h
/-- The bytes that are left are rounds enough. -/
theorem partsR_enough : ∀ (k : Nat) (p : ByteArray) (a : Nat) (ps : List Part) (j : Nat), partsR k p a = some ps → p.size - a < j → partsR j p a = some ps
  | 0, _, _, _, _, h, _ => by simp [partsR] at h
  | k + 1, p, a, ps, j, h, hj => by
    obtain ⟨i, rfl⟩ : ∃ i, j = i + 1 := ⟨j - 1, by omega⟩
    rw [partsR] at h ⊢
    split at h
    · rename_i hlt
      rw [if_pos hlt]
      split at h
      · simp at h
      · rename_i f m n hF
        have hbd := firstR_bound (by rw [size_extract]; omega) hF
        rw [size_extract] at hbd
        cases hr : partsR k p (a + n) with
        | none => rw [hr] at h; simp at h
        | some r =>
          rw [hr] at h
          rw [partsR_enough k p (a + n) r i hr (by omega)]
          exact h
    · rename_i hlt
      rw [if_neg hlt]
      exact h
theorem partsR_shift : ∀ (k : Nat) (p q : ByteArray) (b : Nat), partsR k (p ++ q) (p.size + b) = partsR k q b
  | 0, _, _, _ => rfl
  | k + 1, p, q, b => by
    rw [partsR, partsR, extract_right, size_both]
    by_cases h : b < q.size
    · rw [if_pos h, if_pos (by omega)]
      cases hF : firstR (q.extract b q.size) with
      | none => rfl
      | some x =>
        obtain ⟨f, m, n⟩ := x
        simp only []
        rw [Nat.add_assoc, partsR_shift k p q (b + n)]
    · rw [if_neg h, if_neg (by omega)]

theorem partsR_append : ∀ (k : Nat) (p q : ByteArray) (a : Nat) (ps qs : List Part) (kq : Nat), a ≤ p.size → ¬ (1 ≤ p.size ∧ byteAt p (p.size - 1) = 42 ∧ 1 ≤ q.size ∧ byteAt q 0 = 42) → partsR k p a = some ps → partsR kq q 0 = some qs → partsR (k + kq) (p ++ q) a = some (ps ++ qs)
  | 0, _, _, _, _, _, _, _, _, h, _ => by simp [partsR] at h
  | k + 1, p, q, a, ps, qs, kq, ha, hx, h, hq => by
    rw [partsR] at h
    split at h
    · rename_i hlt
      split at h
      · simp at h
      · rename_i f m n hF
        cases hr : partsR k p (a + n) with
        | none => rw [hr] at h; simp at h
        | some r =>
          rw [hr] at h
          simp only [Option.map_some, Option.some.injEq] at h
          subst h
          have hs : 1 ≤ (p.extract a p.size).size := by rw [size_extract]; omega
          have hbd := firstR_bound hs hF
          rw [size_extract] at hbd
          have hF2 : firstR ((p ++ q).extract a (p ++ q).size) = some (f, m, n) := by
            rw [extract_left p q a (by omega)]
            refine firstR_left _ q hs f m n hF ?_
            rw [size_extract, byteAt_extract p a 0 (by omega)]
            rintro ⟨h1, h2, h3⟩
            exact hx ⟨by omega, by rw [show p.size - 1 = a + 0 by omega]; exact h2, h3⟩
          have ih := partsR_append k p q (a + n) r qs kq (by omega) hx hr hq
          rw [show k + 1 + kq = (k + kq) + 1 by omega, partsR, if_pos (by rw [size_both]; omega), hF2]
          simp only []
          rw [ih]
          rfl
    · simp only [Option.some.injEq] at h
      subst h
      have e : a = p.size + 0 := by omega
      rw [e, partsR_shift]
      rw [show k + 1 + kq = kq + (k + 1) by omega]
      exact partsR_more kq q 0 qs (k + 1) hq

theorem parseR_parts {p : ByteArray} {ps : List Part} (h : parseR p = .inr ps) : 1 ≤ p.size ∧ p.size ≤ 24 ∧ partsR (p.size + 1) p 0 = some ps := by
  unfold parseR at h
  split at h
  · simp at h
  · split at h
    · simp at h
    · split at h
      · simp at h
      · rename_i hh; simp only [Sum.inr.injEq] at h; exact ⟨by omega, by omega, by rw [hh, h]⟩

/-- Two patterns in one. -/
theorem parseR_append {p q : ByteArray} {ps qs : List Part} (hp : parseR p = .inr ps) (hq : parseR q = .inr qs) (hx : ¬ (byteAt p (p.size - 1) = 42 ∧ byteAt q 0 = 42)) (hsz : p.size + q.size ≤ 24) : parseR (p ++ q) = .inr (ps ++ qs) := by
  obtain ⟨p1, p2, p3⟩ := parseR_parts hp
  obtain ⟨q1, q2, q3⟩ := parseR_parts hq
  have h := partsR_append _ p q 0 ps qs _ (by omega) (fun h => hx ⟨h.2.1, h.2.2.2⟩) p3 q3
  unfold parseR
  rw [size_both, if_neg (by omega), if_neg (by omega)]
  rw [partsR_enough _ (p ++ q) 0 _ (p.size + q.size + 1) h (by rw [size_both]; omega)]

end Go.Proofs.Ytaipgmnifnclbaa
