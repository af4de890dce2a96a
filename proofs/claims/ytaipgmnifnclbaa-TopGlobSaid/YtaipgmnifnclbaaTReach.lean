/- What is like two lists of parts one behind the other; slashes counted part by part. -/
import Derived.Test.YtaipgmnifnclbaaTApp
namespace Go.Proofs.Ytaipgmnifnclbaa
open Go.RowKit

theorem rowOf_congr (m : Bool) (f r r' : Nat → Bool) (s s' : ByteArray) : ∀ j, (∀ x, x ≤ j → r x = r' x) → (∀ x, x < j → byteAt s x = byteAt s' x) → rowOf m f r s j = rowOf m f r' s' j
  | 0, h, _ => by simp [rowOf, h 0]
  | j + 1, h, hb => by
    rw [rowOf, rowOf, rowOf_congr m f r r' s s' j (fun x hx => h x (by omega)) (fun x hx => hb x (by omega)), hb j (by omega), h j (by omega), h (j + 1) (by omega)]

theorem likeAt_left (ps qs : List Part) (i : Nat) (h : i < ps.length) : likeAt (ps ++ qs) i = likeAt ps i ∧ manyAt (ps ++ qs) i = manyAt ps i := by
  unfold likeAt manyAt
  rw [List.getD_eq_getElem?_getD, List.getElem?_append_left h, ← List.getD_eq_getElem?_getD]
  exact ⟨rfl, rfl⟩
theorem likeAt_right (ps qs : List Part) (i : Nat) : likeAt (ps ++ qs) (ps.length + i) = likeAt qs i ∧ manyAt (ps ++ qs) (ps.length + i) = manyAt qs i := by
  unfold likeAt manyAt
  rw [List.getD_eq_getElem?_getD, List.getElem?_append_right (by omega), Nat.add_sub_cancel_left, ← List.getD_eq_getElem?_getD]
  exact ⟨rfl, rfl⟩

theorem reach_left (ps qs : List Part) (s t : ByteArray) : ∀ i, i ≤ ps.length → ∀ j, j ≤ s.size → reach (ps ++ qs) (s ++ t) i j = reach ps s i j
  | 0, _, _, _ => rfl
  | i + 1, hi, j, hj => by
    show rowOf _ _ _ _ j = rowOf _ _ _ _ j
    obtain ⟨h1, h2⟩ := likeAt_left ps qs i (by omega)
    rw [h1, h2]
    exact rowOf_congr _ _ _ _ _ _ j (fun x hx => reach_left ps qs s t i (by omega) x (by omega)) (fun x hx => byteAt_left s t x (by omega))

theorem reach_right (ps qs : List Part) (s t : ByteArray) (h : reach ps s ps.length s.size = true) : ∀ i j, reach qs t i j = true → reach (ps ++ qs) (s ++ t) (ps.length + i) (s.size + j) = true
  | 0, j, hr => by
    have : j = 0 := by simpa [reach] using hr
    subst this
    rw [Nat.add_zero, Nat.add_zero, reach_left ps qs s t _ (Nat.le_refl _) _ (Nat.le_refl _)]
    exact h
  | i + 1, j, hr => by
    have ih := reach_right ps qs s t h i
    obtain ⟨h1, h2⟩ := likeAt_right ps qs i
    have hr' : rowOf (manyAt qs i) (likeAt qs i) (reach qs t i) t j = true := hr
    show rowOf (manyAt (ps ++ qs) (ps.length + i)) (likeAt (ps ++ qs) (ps.length + i)) (reach (ps ++ qs) (s ++ t) (ps.length + i)) (s ++ t) (s.size + j) = true
    rw [h1, h2]
    cases hm : manyAt qs i
    · rw [hm, rowOf_one] at hr'
      obtain ⟨k, a, b, rfl⟩ := hr'
      rw [rowOf_one]
      exact ⟨s.size + k, ih k a, by rw [byteAt_right]; exact b, by omega⟩
    · rw [hm, rowOf_many] at hr'
      obtain ⟨k, a, b, c⟩ := hr'
      rw [rowOf_many]
      refine ⟨s.size + k, by omega, ih k b, fun y hy1 hy2 => ?_⟩
      obtain ⟨z, rfl⟩ : ∃ z, y = s.size + z := ⟨y - s.size, by omega⟩
      rw [byteAt_right]
      exact c z (by omega) (by omega)

theorem match_append {p q s t : ByteArray} {ps qs : List Part} (hp : parseR p = .inr ps) (hq : parseR q = .inr qs) (hpq : parseR (p ++ q) = .inr (ps ++ qs)) (h1 : matchR p s = true) (h2 : matchR q t = true) : matchR (p ++ q) (s ++ t) = true := by
  unfold matchR at *
  rw [hp] at h1
  rw [hq] at h2
  rw [hpq]
  simp only [runTo_reach] at *
  rw [List.length_append, size_both]
  exact reach_right ps qs s t h1 _ _ h2

/-- How many slashes the first j bytes have. -/
def cnt (s : ByteArray) : Nat → Nat
  | 0 => 0
  | j + 1 => cnt s j + if byteAt s j = 47 then 1 else 0
/-- How many of the first i parts are a slash. -/
def cntP (ps : List Part) : Nat → Nat
  | 0 => 0
  | i + 1 => cntP ps i + if manyAt ps i = false ∧ likeAt ps i 47 = true then 1 else 0
/-- A part takes a slash as one byte, and no other byte then, or none at all. -/
def Tame (f : Nat → Bool) (m : Bool) : Prop := (m = true → f 47 = false) ∧ (m = false → f 47 = true → ∀ c, f c = true → c = 47)

theorem cnt_none (s : ByteArray) : ∀ (d k : Nat), (∀ y, k ≤ y → y < k + d → byteAt s y ≠ 47) → cnt s (k + d) = cnt s k
  | 0, _, _ => rfl
  | d + 1, k, h => by
    rw [show k + (d + 1) = (k + d) + 1 by omega, cnt, if_neg (h (k + d) (by omega) (by omega)), cnt_none s d k (fun y a b => h y a (by omega))]
    rfl

theorem reach_cnt (ps : List Part) (s : ByteArray) (ht : ∀ i, i < ps.length → Tame (likeAt ps i) (manyAt ps i)) : ∀ i, i ≤ ps.length → ∀ j, reach ps s i j = true → cnt s j = cntP ps i
  | 0, _, j, h => by
    have : j = 0 := by simpa [reach] using h
    subst this
    rfl
  | i + 1, hi, j, h => by
    have ih := reach_cnt ps s ht i (by omega)
    obtain ⟨t1, t2⟩ := ht i (by omega)
    have h' : rowOf (manyAt ps i) (likeAt ps i) (reach ps s i) s j = true := h
    rw [cntP]
    cases hm : manyAt ps i
    · rw [hm, rowOf_one] at h'
      obtain ⟨k, a, b, rfl⟩ := h'
      rw [cnt, ih k a]
      by_cases hl : likeAt ps i 47 = true
      · have := t2 hm hl _ b
        rw [if_pos this, if_pos ⟨rfl, hl⟩]
      · have : byteAt s k ≠ 47 := fun e => hl (by rw [← e]; exact b)
        rw [if_neg this, if_neg (fun x => hl x.2)]
    · rw [hm, rowOf_many] at h'
      obtain ⟨k, a, b, c⟩ := h'
      have hz : ∀ y, k ≤ y → y < k + (j - k) → byteAt s y ≠ 47 := fun y y1 y2 e => by
        have := c y y1 (by omega)
        rw [e, t1 hm] at this
        simp at this
      have := cnt_none s (j - k) k hz
      rw [show k + (j - k) = j by omega] at this
      rw [this, ih k b, if_neg (by simp), Nat.add_zero]
end Go.Proofs.Ytaipgmnifnclbaa
