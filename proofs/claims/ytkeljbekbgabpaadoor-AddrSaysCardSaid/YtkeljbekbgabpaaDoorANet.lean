/- A net's text, and what it is read as. No walk in it. -/
import Derived.Test.YtkeljbekbgabpaaDoorASpec
import Derived.Test.YtkeljbekbgabpaaDoorACheck
namespace Go.Proofs.YtkeljbekbgabpaaDoor
open Go.RowKit

def signsL : List UInt8 := [46, 46, 46, 47, 58, 45]
def ipOf (a b c d : Nat) : Nat := ((a * 256 + b) * 256 + c) * 256 + d
def netNums (ip b lo hi : Nat) : List Nat := [ip / 16777216, ip / 65536 % 256, ip / 256 % 256, ip % 256, b, lo, hi]
def netText (ip b lo hi : Nat) : List UInt8 := joinN signsL (netNums ip b lo hi)

def parseR (s : List UInt8) : Option (Nat × Nat × Nat × Nat) := match splitN signsL s with
  | some [a, b, c, d, e, f, g] => if a ≤ 255 ∧ b ≤ 255 ∧ c ≤ 255 ∧ d ≤ 255 ∧ faultOf (ipOf a b c d) e f g = 0 then some (ipOf a b c d, e, f, g) else none
  | _ => none

theorem fault_ok {ip : Nat} {b lo hi : Int} (h : faultOf ip b lo hi = 0) : (0 ≤ b ∧ b ≤ 32) ∧ (0 ≤ lo ∧ lo ≤ hi ∧ hi ≤ 65535) ∧ ip % restN b.toNat = 0 := by
  unfold faultOf at h
  split at h
  · simp at h
  · split at h
    · rename_i h1 h2
      exact ⟨by omega, by omega, h2⟩
    · simp at h

theorem signs_no : ∀ c ∈ signsL, isDig c = false := by decide +kernel

theorem split_text {ip b lo hi : Nat} (hip : ip < 4294967296) (hf : faultOf ip b lo hi = 0) : splitN signsL (netText ip b lo hi) = some (netNums ip b lo hi) := by
  obtain ⟨h1, h2, _⟩ := fault_ok hf
  refine splitN_join signsL _ signs_no rfl fun n hn => ?_
  simp only [netNums, List.mem_cons, List.not_mem_nil, or_false] at hn
  omega

theorem ipOf_parts (ip : Nat) (hip : ip < 4294967296) : ipOf (ip / 16777216) (ip / 65536 % 256) (ip / 256 % 256) (ip % 256) = ip := by
  unfold ipOf
  omega

theorem parse_text {ip b lo hi : Nat} (hip : ip < 4294967296) (hf : faultOf ip b lo hi = 0) : parseR (netText ip b lo hi) = some (ip, b, lo, hi) := by
  unfold parseR
  rw [split_text hip hf]
  show (if _ then _ else _) = _
  rw [ipOf_parts ip hip, if_pos ⟨by omega, by omega, by omega, by omega, hf⟩]

theorem len7 {l : List Nat} (h : l.length = 7) : ∃ a b c d e f g, l = [a, b, c, d, e, f, g] := by
  match l, h with
  | [a, b, c, d, e, f, g], _ => exact ⟨a, b, c, d, e, f, g, rfl⟩

theorem ipOf_lt {a b c d : Nat} (ha : a ≤ 255) (hb : b ≤ 255) (hc : c ≤ 255) (hd : d ≤ 255) : ipOf a b c d < 4294967296 := by
  unfold ipOf
  omega

theorem nums_back {a b c d : Nat} (_ha : a ≤ 255) (hb : b ≤ 255) (hc : c ≤ 255) (hd : d ≤ 255) (e f g : Nat) : netNums (ipOf a b c d) e f g = [a, b, c, d, e, f, g] := by
  unfold netNums ipOf
  rw [show (((a * 256 + b) * 256 + c) * 256 + d) / 16777216 = a by omega, show (((a * 256 + b) * 256 + c) * 256 + d) / 65536 % 256 = b by omega, show (((a * 256 + b) * 256 + c) * 256 + d) / 256 % 256 = c by omega, show (((a * 256 + b) * 256 + c) * 256 + d) % 256 = d by omega]

theorem parse_some {s : List UInt8} {ip b lo hi : Nat} (h : parseR s = some (ip, b, lo, hi)) : ip < 4294967296 ∧ faultOf ip b lo hi = 0 ∧ s = netText ip b lo hi := by
  unfold parseR at h
  split at h
  · rename_i a b' c d e f g hs
    split at h
    · rename_i hc
      obtain ⟨h1, h2, h3, h4, h5⟩ := hc
      have h' := Option.some.inj h
      simp only [Prod.mk.injEq] at h'
      obtain ⟨rfl, rfl, rfl, rfl⟩ := h'
      refine ⟨ipOf_lt h1 h2 h3 h4, h5, ?_⟩
      obtain ⟨_, _, h6⟩ := splitN_some _ _ _ hs
      unfold netText
      rw [nums_back h1 h2 h3 h4]
      exact h6
    · cases h
  · cases h
end Go.Proofs.YtkeljbekbgabpaaDoor
