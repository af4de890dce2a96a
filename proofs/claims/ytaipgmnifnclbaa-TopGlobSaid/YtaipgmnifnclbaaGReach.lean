/- The language of a list of parts: what the places of Match and the rows of the document's like both compute. -/
import Derived.Test.YtaipgmnifnclbaaGPieces
namespace Go.Proofs.Ytaipgmnifnclbaa
open Go.RowKit

/-- The next row: which beginnings of a text the parts up to one more are like. -/
def rowOf (m : Bool) (f r : Nat → Bool) (s : ByteArray) : Nat → Bool
  | 0 => m && r 0
  | j + 1 => if m = true then r (j + 1) || (rowOf m f r s j && f (byteAt s j)) else r j && f (byteAt s j)
/-- Are the first j bytes like the first i parts? -/
def reach (ps : List Part) (s : ByteArray) : Nat → Nat → Bool
  | 0 => fun j => j == 0
  | i + 1 => rowOf (manyAt ps i) (likeAt ps i) (reach ps s i) s

theorem rowOf_one (f r : Nat → Bool) (s : ByteArray) (x : Nat) : rowOf false f r s x = true ↔ ∃ i, r i = true ∧ f (byteAt s i) = true ∧ x = i + 1 := by
  cases x with
  | zero => simp [rowOf]
  | succ j =>
    simp only [rowOf, Bool.false_eq_true, if_false, Bool.and_eq_true]
    constructor
    · intro h; exact ⟨j, h.1, h.2, rfl⟩
    · rintro ⟨i, h1, h2, h3⟩
      obtain rfl : j = i := by omega
      exact ⟨h1, h2⟩
theorem rowOf_many (f r : Nat → Bool) (s : ByteArray) (x : Nat) : rowOf true f r s x = true ↔ ∃ i, i ≤ x ∧ r i = true ∧ ∀ y, i ≤ y → y < x → f (byteAt s y) = true := by
  induction x with
  | zero =>
    simp only [rowOf, Bool.true_and]
    constructor
    · intro h; exact ⟨0, Nat.le_refl _, h, fun y _ h => by omega⟩
    · rintro ⟨i, h1, h2, _⟩
      obtain rfl : i = 0 := by omega
      exact h2
  | succ j ih =>
    simp only [rowOf, if_true, Bool.or_eq_true, Bool.and_eq_true]
    constructor
    · rintro (h | ⟨h1, h2⟩)
      · exact ⟨j + 1, Nat.le_refl _, h, fun y a b => by omega⟩
      · obtain ⟨i, a, b, c⟩ := ih.1 h1
        refine ⟨i, by omega, b, fun y hy1 hy2 => ?_⟩
        by_cases e : y = j
        · subst e; exact h2
        · exact c y hy1 (by omega)
    · rintro ⟨i, a, b, c⟩
      by_cases e : i = j + 1
      · left; rw [← e]; exact b
      · right
        exact ⟨ih.2 ⟨i, by omega, b, fun y h1 h2 => c y h1 (by omega)⟩, c j (by omega) (by omega)⟩

/-- What passTo comes to. -/
def closure (ps : List Part) (g : Nat → Bool) : Nat → Bool
  | 0 => g 0
  | i + 1 => g (i + 1) || (manyAt ps i && closure ps g i)
theorem passTo_at (ps : List Part) (g : Nat → Bool) : ∀ k i, passTo ps g k i = if i ≤ k then closure ps g i else g i
  | 0, i => by
    cases i with
    | zero => rfl
    | succ i => simp [passTo]
  | k + 1, i => by
    have ih := passTo_at ps g k
    have hk : passTo ps g k k = closure ps g k := by rw [ih]; simp
    rw [passTo]
    by_cases hi : i = k + 1
    · subst hi
      have h1 : passTo ps g k (k + 1) = g (k + 1) := by rw [ih, if_neg (by omega)]
      rw [if_pos (Nat.le_refl _), closure]
      split
      · rename_i hc
        rw [hk] at hc
        simp only [Bool.and_eq_true] at hc
        simp [upd, hc.1, hc.2]
      · rename_i hc
        rw [hk] at hc
        have : (manyAt ps k && closure ps g k) = false := by
          rw [Bool.and_comm]; simpa using hc
        rw [h1, this]
        simp
    · have h2 : (if i ≤ k + 1 then closure ps g i else g i) = (if i ≤ k then closure ps g i else g i) := by
        by_cases hl : i ≤ k
        · rw [if_pos hl, if_pos (by omega)]
        · rw [if_neg hl, if_neg (by omega)]
      rw [h2, ← ih i]
      split
      · simp [upd, hi]
      · rfl

theorem stepTo_at (ps : List Part) (f : Nat → Bool) (b : Nat) : ∀ k i, stepTo ps f b k i = true ↔ (i < k ∧ f i = true ∧ likeAt ps i b = true ∧ manyAt ps i = true) ∨ ∃ i', i = i' + 1 ∧ i' < k ∧ f i' = true ∧ likeAt ps i' b = true ∧ manyAt ps i' = false
  | 0, i => by simp [stepTo]
  | k + 1, i => by
    have ih := stepTo_at ps f b k i
    rw [stepTo]
    split
    · rename_i hc
      simp only [Bool.and_eq_true] at hc
      split
      · rename_i hm
        by_cases e : i = k
        · subst e
          simp only [upd, if_true]
          exact ⟨fun _ => .inl ⟨by omega, hc.1, hc.2, hm⟩, fun _ => trivial⟩
        · simp only [upd, if_neg e]
          rw [ih]
          constructor
          · rintro (⟨a, r⟩ | ⟨i', a, b', r⟩)
            · exact .inl ⟨by omega, r⟩
            · exact .inr ⟨i', a, by omega, r⟩
          · rintro (⟨a, r⟩ | ⟨i', a, b', r⟩)
            · exact .inl ⟨by omega, r⟩
            · refine .inr ⟨i', a, ?_, r⟩
              by_cases e2 : i' = k
              · subst e2; rw [hm] at r; simp at r
              · omega
      · rename_i hm
        have hm' : manyAt ps k = false := by simpa using hm
        by_cases e : i = k + 1
        · subst e
          simp only [upd, if_true]
          exact ⟨fun _ => .inr ⟨k, rfl, by omega, hc.1, hc.2, hm'⟩, fun _ => trivial⟩
        · simp only [upd, if_neg e]
          rw [ih]
          constructor
          · rintro (⟨a, r⟩ | ⟨i', a, b', r⟩)
            · exact .inl ⟨by omega, r⟩
            · exact .inr ⟨i', a, by omega, r⟩
          · rintro (⟨a, r⟩ | ⟨i', a, b', r⟩)
            · refine .inl ⟨?_, r⟩
              by_cases e2 : i = k
              · subst e2; rw [hm'] at r; simp at r
              · omega
            · exact .inr ⟨i', a, by omega, r⟩
    · rename_i hc
      rw [ih]
      constructor
      · rintro (⟨a, r⟩ | ⟨i', a, b', r⟩)
        · exact .inl ⟨by omega, r⟩
        · exact .inr ⟨i', a, by omega, r⟩
      · rintro (⟨a, r⟩ | ⟨i', a, b', r⟩)
        · refine .inl ⟨?_, r⟩
          by_cases e2 : i = k
          · subst e2; exact absurd (by rw [r.1, r.2.1]; rfl) hc
          · omega
        · refine .inr ⟨i', a, ?_, r⟩
          by_cases e2 : i' = k
          · subst e2; exact absurd (by rw [r.1, r.2.1]; rfl) hc
          · omega

/-- What a place of Match says: the parts ahead of it, and, if it stands at a star, what that star has taken so far. -/
def placeAt (ps : List Part) (s : ByteArray) (i j : Nat) : Bool := if i < ps.length ∧ manyAt ps i = true then reach ps s (i + 1) j else reach ps s i j

theorem reach_nought (ps : List Part) (s : ByteArray) (i : Nat) : reach ps s (i + 1) 0 = (manyAt ps i && reach ps s i 0) := rfl
theorem reach_many (ps : List Part) (s : ByteArray) (i j : Nat) (h : manyAt ps i = true) : reach ps s (i + 1) (j + 1) = (reach ps s i (j + 1) || (reach ps s (i + 1) j && likeAt ps i (byteAt s j))) := by
  show rowOf _ _ _ _ _ = _
  rw [rowOf, if_pos h]
  rfl
theorem reach_one (ps : List Part) (s : ByteArray) (i j : Nat) (h : manyAt ps i = false) : reach ps s (i + 1) (j + 1) = (reach ps s i j && likeAt ps i (byteAt s j)) := by
  show rowOf _ _ _ _ _ = _
  rw [rowOf, if_neg (by rw [h]; simp)]

theorem place_start (ps : List Part) (s : ByteArray) : ∀ i, i ≤ ps.length → closure ps (fun i => i == 0) i = placeAt ps s i 0
  | 0, _ => by
    unfold placeAt
    split
    · rename_i h; rw [reach_nought, h.2]; rfl
    · rfl
  | i + 1, hi => by
    have ih := place_start ps s i (by omega)
    have e : placeAt ps s (i + 1) 0 = reach ps s (i + 1) 0 := by
      unfold placeAt
      split
      · rename_i h; rw [reach_nought, h.2]; rfl
      · rfl
    rw [e, closure, ih]
    cases hm : manyAt ps i
    · rw [reach_nought, hm]; rfl
    · have : placeAt ps s i 0 = reach ps s (i + 1) 0 := by unfold placeAt; rw [if_pos ⟨by omega, hm⟩]
      rw [this]
      simp

theorem place_step (ps : List Part) (s : ByteArray) (f : Nat → Bool) (j : Nat) (hf : ∀ i, i ≤ ps.length → f i = placeAt ps s i j) : ∀ i, i ≤ ps.length → closure ps (stepTo ps f (byteAt s j) ps.length) i = placeAt ps s i (j + 1) := by
  -- the place's own star
  have hA : ∀ i, i ≤ ps.length → ∀ x : Bool, (x = true ↔ ∃ i', i = i' + 1 ∧ i' < ps.length ∧ f i' = true ∧ likeAt ps i' (byteAt s j) = true ∧ manyAt ps i' = false) → stepTo ps f (byteAt s j) ps.length i = ((decide (i < ps.length) && manyAt ps i && reach ps s (i + 1) j && likeAt ps i (byteAt s j)) || x) := by
    intro i hi x hx
    rw [Bool.eq_iff_iff, stepTo_at]
    simp only [Bool.or_eq_true, Bool.and_eq_true, decide_eq_true_eq]
    rw [hx]
    constructor
    · rintro (⟨h1, h2, h3, h4⟩ | h)
      · rw [hf i hi] at h2
        unfold placeAt at h2
        rw [if_pos ⟨h1, h4⟩] at h2
        exact .inl ⟨⟨⟨h1, h4⟩, h2⟩, h3⟩
      · exact .inr h
    · rintro (⟨⟨⟨h1, h4⟩, h2⟩, h3⟩ | h)
      · refine .inl ⟨h1, ?_, h3, h4⟩
        rw [hf i hi]
        unfold placeAt
        rw [if_pos ⟨h1, h4⟩]
        exact h2
      · exact .inr h
  intro i
  induction i with
  | zero =>
    intro hi
    rw [closure, hA 0 hi false (by simp)]
    unfold placeAt
    by_cases h : 0 < ps.length ∧ manyAt ps 0 = true
    · rw [if_pos h, reach_many _ _ _ _ h.2]
      simp [h.1, h.2, reach]
    · rw [if_neg h]
      have : (decide (0 < ps.length) && manyAt ps 0) = false := by
        rw [Bool.and_eq_false_iff]
        by_cases h0 : 0 < ps.length
        · right; simpa [h0] using h
        · left; simpa using h0
      rw [this]
      rfl
  | succ i ih =>
    intro hi
    have ih' := ih (by omega)
    have hlast : (placeAt ps s (i + 1) (j + 1)) = ((decide (i + 1 < ps.length) && manyAt ps (i + 1) && reach ps s (i + 2) j && likeAt ps (i + 1) (byteAt s j)) || reach ps s (i + 1) (j + 1)) := by
      unfold placeAt
      by_cases h : i + 1 < ps.length ∧ manyAt ps (i + 1) = true
      · rw [if_pos h, reach_many _ _ _ _ h.2, Bool.or_comm]
        simp [h.1, h.2]
      · rw [if_neg h]
        have : (decide (i + 1 < ps.length) && manyAt ps (i + 1)) = false := by
          rw [Bool.and_eq_false_iff]
          by_cases h0 : i + 1 < ps.length
          · right; simpa [h0] using h
          · left; simpa using h0
        rw [this]
        simp
    cases hm : manyAt ps i
    · have hp : placeAt ps s i j = reach ps s i j := by unfold placeAt; rw [if_neg (by rw [hm]; simp)]
      rw [closure, hA (i + 1) hi (reach ps s (i + 1) (j + 1)), hlast, hm]
      · simp
      · rw [reach_one _ _ _ _ hm, Bool.and_eq_true]
        constructor
        · rintro ⟨a, b⟩
          exact ⟨i, rfl, by omega, by rw [hf i (by omega), hp]; exact a, b, hm⟩
        · rintro ⟨i', e, _, a, b, _⟩
          obtain rfl : i = i' := by omega
          rw [hf i (by omega), hp] at a
          exact ⟨a, b⟩
    · have hp : placeAt ps s i (j + 1) = reach ps s (i + 1) (j + 1) := by unfold placeAt; rw [if_pos ⟨by omega, hm⟩]
      rw [closure, hA (i + 1) hi false, hlast, hm, ih', hp]
      · simp
      · constructor
        · intro h; simp at h
        · rintro ⟨i', e, _, _, _, c⟩
          obtain rfl : i = i' := by omega
          rw [hm] at c
          simp at c

theorem runTo_place (ps : List Part) (s : ByteArray) : ∀ j i, i ≤ ps.length → runTo ps s j i = placeAt ps s i j
  | 0, i, hi => by
    rw [runTo, passTo_at, if_pos hi]
    exact place_start ps s i hi
  | j + 1, i, hi => by
    rw [runTo, passTo_at, if_pos hi]
    exact place_step ps s _ j (fun i h => runTo_place ps s j i h) i hi

theorem runTo_reach (ps : List Part) (s : ByteArray) : runTo ps s s.size ps.length = reach ps s ps.length s.size := by
  rw [runTo_place ps s s.size ps.length (Nat.le_refl _)]
  unfold placeAt
  rw [if_neg (by omega)]
end Go.Proofs.Ytaipgmnifnclbaa
