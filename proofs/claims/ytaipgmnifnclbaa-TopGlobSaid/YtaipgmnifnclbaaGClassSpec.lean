/- What glob.class, escaped, first and parse compute, as plain functions of bytes. -/
import Derived.Test.YtaipgmnifnclbaaGMember
namespace Go.Proofs.Ytaipgmnifnclbaa
open Go.RowKit

/-- 'f' and all from lo to hi. -/
def addRange (f : Nat → Bool) (lo hi : Nat) : Nat → Bool := fun i => f i || (decide (lo ≤ i) && decide (i ≤ hi))
/-- .. so far as the inner loop has come. -/
def addTo (f : Nat → Bool) (lo hi k : Nat) : Nat → Bool := fun i => f i || (decide (i < k) && (decide (lo ≤ i) && decide (i ≤ hi)))
theorem addTo_zero (f : Nat → Bool) (lo hi : Nat) : addTo f lo hi 0 = f := by funext i; simp [addTo]
theorem addTo_yes (f : Nat → Bool) (lo hi k : Nat) (h1 : lo ≤ k) (h2 : k ≤ hi) : upd (addTo f lo hi k) k true = addTo f lo hi (k + 1) := by
  funext i
  simp only [upd, addTo]
  by_cases h : i = k
  · subst h; simp [h1, h2]
  · have e : decide (i < k + 1) = decide (i < k) := by rw [decide_eq_decide]; omega
    simp [h, e]
theorem addTo_no (f : Nat → Bool) (lo hi k : Nat) (h : ¬ (lo ≤ k ∧ k ≤ hi)) : addTo f lo hi k = addTo f lo hi (k + 1) := by
  funext i
  simp only [addTo]
  by_cases hi' : i = k
  · subst hi'
    have : (decide (lo ≤ i) && decide (i ≤ hi)) = false := by
      rw [Bool.and_eq_false_iff]; simp only [decide_eq_false_iff_not]; omega
    simp [this]
  · have e : decide (i < k + 1) = decide (i < k) := by rw [decide_eq_decide]; omega
    rw [e]
theorem addTo_all (f : Nat → Bool) (lo hi : Nat) (h : hi < 256) : addTo f lo hi 256 = addRange f lo hi := by
  funext i
  simp only [addTo, addRange]
  by_cases h1 : i ≤ hi
  · simp [show i < 256 by omega]
  · simp [h1]

/-- How many bytes the member at a place has: nought, if none stands there. -/
def memberAt (s : ByteArray) (at' : Nat) : Nat := memberN (s.size - at') (byteAt s at') (byteAt s (at' + 1)) (byteAt s (at' + 2))

/-- The members of a class, from a place on, till a ']' or the end. -/
def scan : Nat → ByteArray → Nat → (Nat → Bool) → Option (Nat × (Nat → Bool))
  | 0, _, _, _ => none
  | k + 1, s, a, f =>
    if a < s.size ∧ byteAt s a ≠ 93 then
      (if memberAt s a = 0 then none else scan k s (a + memberAt s a) (addRange f (byteAt s a) (byteAt s (a + memberAt s a - 1))))
    else some (a, f)

theorem memberAt_le (s : ByteArray) (a : Nat) (h : a < s.size) : a + memberAt s a ≤ s.size ∧ memberAt s a ≤ 3 := by
  unfold memberAt memberN
  repeat' split
  all_goals omega

def notB (s : ByteArray) : Bool := decide (1 < s.size) && byteAt s 1 == 33
def classBegin (s : ByteArray) : Nat := if notB s = true then 2 else 1
/-- What comes of the members: nothing, where there are none or no ']'. -/
def classFin (nb : Bool) (B size : Nat) : Option (Nat × (Nat → Bool)) → Option ((Nat → Bool) × Nat)
  | none => none
  | some (a, f) => if a = B ∨ a = size then none else some (upd (if nb = true then fun i => !f i else f) 47 false, a + 1)
/-- What a class is like, and how many bytes it has. -/
def classR (s : ByteArray) : Option ((Nat → Bool) × Nat) := classFin (notB s) (classBegin s) s.size (scan (s.size + 1) s (classBegin s) fun _ => false)

theorem byteAt_extract (s : ByteArray) (a i : Nat) (_h : a ≤ s.size) : byteAt (s.extract a s.size) i = byteAt s (a + i) := by
  unfold byteAt
  rw [Lib.extract_data]
  simp only [List.getD_eq_getElem?_getD]
  congr 2
  rw [List.take_of_length_le (by simp only [List.length_drop, Lib.size_eq]; omega), List.getElem?_drop]
theorem size_extract (s : ByteArray) (a : Nat) : (s.extract a s.size).size = s.size - a := by simp

theorem hasPrefix_one (s : ByteArray) (c : UInt8) : Lib.hasPrefix s.data.toList [c] = (decide (0 < s.size) && byteAt s 0 == c.toNat) := by
  unfold byteAt
  rw [Lib.size_eq]
  cases h : s.data.toList with
  | nil => simp [Lib.hasPrefix]
  | cons a l =>
    simp only [Lib.hasPrefix, List.isPrefixOf, List.getD_cons_zero, List.length_cons]
    rw [Bool.eq_iff_iff]
    simp only [Bool.and_true, beq_iff_eq, Nat.zero_lt_succ, decide_true, Bool.true_and, ← UInt8.toNat_inj]
    exact ⟨fun h => h.symm, fun h => h.symm⟩

theorem hasPrefix_not (s : ByteArray) (h : 1 ≤ s.size) : Lib.hasPrefix (s.extract 1 s.size).data.toList [33] = notB s := by
  rw [hasPrefix_one, byteAt_extract s 1 0 h, size_extract]
  unfold notB
  congr 1
  rw [decide_eq_decide]; omega
end Go.Proofs.Ytaipgmnifnclbaa
