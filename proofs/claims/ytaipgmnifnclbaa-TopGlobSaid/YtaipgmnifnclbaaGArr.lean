/- Arrays of bools said by a function, for the walks of package glob: no array is ever written out. -/
import Derived.Test.YtaipgmnifnclbaaBase
namespace Go.Proofs.Ytaipgmnifnclbaa
open Go.RowKit

/-- n bools, said by a function, as the kernel reckons them. -/
def LA0 (n : Nat) (f : Nat → Bool) : Array Value := Array.ofFn (n := n) fun i => .bool (f i)
/-- The same bools, kept shut: no walk looks into them. -/
def LA (n : Nat) (f : Nat → Bool) : Array Value := if h : n = 0 then #[] else (LA (n - 1) f).push (.bool (f (n - 1)))
theorem LA_eq (n : Nat) (f : Nat → Bool) : LA n f = LA0 n f := by
  induction n with
  | zero => rw [LA]; simp [LA0]
  | succ n ih =>
    rw [LA]
    simp only [Nat.add_one_ne_zero, dite_false, Nat.add_sub_cancel, ih]
    apply Array.ext_getElem?
    intro i
    rw [Array.getElem?_push]
    have hz : (LA0 n f).size = n := by simp [LA0]
    rw [hz]
    by_cases hi : i = n
    · subst hi; simp [LA0]
    · rw [if_neg hi]
      by_cases hl : i < n
      · simp [LA0, hl, show i < n + 1 by omega]
      · simp [LA0, hl, show ¬ i < n + 1 by omega]
/-- A part of a pattern: 256 bools and one. -/
def PF (f : Nat → Bool) (m : Bool) : Nat → Bool := fun i => if i = 256 then m else f i
def upd (f : Nat → Bool) (i : Nat) (b : Bool) : Nat → Bool := fun j => if j = i then b else f j

theorem LA_size (n : Nat) (f : Nat → Bool) : (LA n f).size = n := by rw [LA_eq]; simp [LA0]
theorem LA_get (n : Nat) (f : Nat → Bool) (i : Nat) (h : i < n) : (LA n f)[i]? = some (.bool (f i)) := by rw [LA_eq]; simp [LA0, h]
theorem LA_set (n : Nat) (f : Nat → Bool) (i : Nat) (b : Bool) : (LA n f).setIfInBounds i (.bool b) = LA n (upd f i b) := by
  apply Array.ext_getElem?
  intro j
  rw [Array.getElem?_setIfInBounds]
  by_cases hj : j < n
  · rw [LA_get n f j hj, LA_get n _ j hj, LA_size]
    by_cases h : i = j
    · subst h; simp [upd, hj]
    · have h' : ¬ j = i := fun e => h e.symm
      simp [h, h', upd]
  · have e1 : (LA n f)[j]? = none := by simp [LA_size]; omega
    have e2 : (LA n (upd f i b))[j]? = none := by simp [LA_size]; omega
    rw [e1, e2, LA_size]
    by_cases h : i = j
    · subst h; simp [hj]
    · simp [h]
theorem LA_one (n : Nat) (f : Nat → Bool) : (LA n f).all (·.oneCell') = true := by
  rw [LA_eq, Array.all_eq_true]
  intro i h
  simp [LA0, Value.oneCell']
theorem LA_congr (n : Nat) (f g : Nat → Bool) (h : ∀ i, i < n → f i = g i) : LA n f = LA n g := by
  rw [LA_eq, LA_eq]
  apply Array.ext
  · simp [LA0]
  · intro i h1 h2
    simp only [LA0, Array.size_ofFn] at h1
    simp [LA0, h i h1]

theorem below_setRow {B : Nat} {a w : World} (h : Below B a w) {g : Nat} (hg : B ≤ g) (cs : Array Value) : Below B a (w.setRow g cs) :=
  ⟨h.os, h.tape, h.output, by simpa using h.size, fun k hk => (setRow_other w g k cs (by omega)).trans (h.block k hk)⟩

/-- A type's zero value, n bools. -/
theorem run_zero_LA {P : Program} {t : TypeId} {n : Nat} (h : (P.info? t).map (·.zero) = some (some (.agg (LA n fun _ => false)))) (w : World) :
    (zeroValue t).run P w = .ok (.agg (LA n fun _ => false)) w := by
  cases hq : P.info? t with
  | none => simp [hq] at h
  | some i =>
    simp [hq] at h
    simp [zeroValue, typeInfo, hq, h]

theorem zero_like : (Try.prog.info? 45).map (·.zero) = some (some (.agg (LA 256 fun _ => false))) := by rw [LA_eq]; kernel_rfl
theorem zero_part : (Try.prog.info? 47).map (·.zero) = some (some (.agg (LA 257 fun _ => false))) := by rw [LA_eq]; kernel_rfl
theorem zero_places : (Try.prog.info? 41).map (·.zero) = some (some (.agg (LA 25 fun _ => false))) := by rw [LA_eq]; kernel_rfl
theorem size_like : (Try.prog.info? 45).map (·.size) = some 256 := by kernel_rfl
theorem size_part : (Try.prog.info? 47).map (·.size) = some 257 := by kernel_rfl
theorem size_places : (Try.prog.info? 41).map (·.size) = some 25 := by kernel_rfl
theorem zv_like (w : World) : (zeroValue 45).run Try.prog w = .ok (.agg (LA 256 fun _ => false)) w := run_zero_LA zero_like w
theorem zv_part (w : World) : (zeroValue 47).run Try.prog w = .ok (.agg (LA 257 fun _ => false)) w := run_zero_LA zero_part w
theorem zv_places (w : World) : (zeroValue 41).run Try.prog w = .ok (.agg (LA 25 fun _ => false)) w := run_zero_LA zero_places w

theorem build_like (w : World) : (Instr.build 45 #[]).run Try.prog w = .ok (.agg (LA 256 fun _ => false)) w := by rw [LA_eq]; kernel_rfl
theorem build_part0 (w : World) : (Instr.build 47 #[]).run Try.prog w = .ok (.agg (LA 257 fun _ => false)) w := by rw [LA_eq]; kernel_rfl
theorem build_places (w : World) : (Instr.build 41 #[(0, .bool true)]).run Try.prog w = .ok (.agg (LA 25 fun i => i == 0)) w := by rw [LA_eq]; kernel_rfl
theorem build_part2 (f : Nat → Bool) (m : Bool) (w : World) : (Instr.build 47 #[(0, .agg (LA 256 f)), (1, .bool m)]).run Try.prog w = .ok (.agg (LA 257 (PF f m))) w := by rw [LA_eq, LA_eq]; kernel_rfl
theorem build_part1 (f : Nat → Bool) (w : World) : (Instr.build 47 #[(0, .agg (LA 256 f))]).run Try.prog w = .ok (.agg (LA 257 (PF f false))) w := by rw [LA_eq, LA_eq]; kernel_rfl
end Go.Proofs.Ytaipgmnifnclbaa
