/- What threads do leaves the pages from 8 on: no walk in it. -/
import Derived.Test.YtlpcjonklfnejaaMTop
namespace Go.Proofs.Ytlpcjonklfnejaa
open Go.RowKit

/-- The pages from 8 on are alike. -/
def high (m m' : MS) : Prop := (∀ n, 8 ≤ n → m'.rd n = m.rd n ∧ m'.wt n = m.wt n) ∧ ∀ x, 512 ≤ x → m'.byte x = m.byte x
theorem high_refl (m : MS) : high m m := ⟨fun _ _ => ⟨rfl, rfl⟩, fun _ _ => rfl⟩
theorem high_trans {a b c : MS} (h : high a b) (g : high b c) : high a c :=
  ⟨fun n hn => ⟨(g.1 n hn).1.trans (h.1 n hn).1, (g.1 n hn).2.trans (h.1 n hn).2⟩, fun x hx => (g.2 x hx).trans (h.2 x hx)⟩
theorem high_map (m : MS) (n : Nat) (hn : n < 8) (b : Bool) : high m (setWt (setRd m n true) n b) :=
  ⟨fun k hk => ⟨if_neg (by omega), if_neg (by omega)⟩, fun _ _ => rfl⟩
theorem high_write (m : MS) (a : Nat) (l : List UInt8) (h : a + l.length ≤ 512) : high m (writeBy m a l) :=
  ⟨fun _ _ => ⟨rfl, rfl⟩, fun x hx => if_neg (by omega)⟩
theorem high_drop (m : MS) (n : Nat) (hn : n < 8) : high m (dropM m n) :=
  high_trans (b := setWt (setRd m n false) n false) ⟨fun k hk => ⟨if_neg (by omega), if_neg (by omega)⟩, fun _ _ => rfl⟩ (high_write _ _ _ (by rw [Z64_len]; omega))
theorem high_put (m : MS) (a : Nat) (l : List UInt8) (ha : a < 18446744073709551616) (hw : ∀ n, 8 ≤ n → n < 12 → m.wt n = false) (hg : ∀ i, i < l.length → goodM m (addrI a i)) : high m (writeBy m a l) := by
  by_cases h0 : 0 < l.length
  · have hf := good_fits ha hg h0
    refine high_write m a l ?_
    rcases Nat.lt_or_ge 512 (a + l.length) with h | h
    · obtain ⟨h1, h2⟩ := hg (l.length - 1) (by omega)
      unfold addrI at h1 h2
      rw [Nat.mod_eq_of_lt (by omega)] at h1 h2
      rw [hw _ (by omega) (by omega)] at h2
      cases h2
    · exact h
  · obtain rfl : l = [] := List.eq_nil_of_length_eq_zero (by omega)
    rw [writeBy_nil]
    exact high_refl m

/-- Every byte is one. -/
def bytesOk (m : MS) : Prop := ∀ x, m.byte x < 256
theorem bytesOk_write {m : MS} (h : bytesOk m) (a : Nat) (l : List UInt8) : bytesOk (writeBy m a l) := fun x => by
  show (if _ then _ else _) < 256
  split
  · exact UInt8.toNat_lt _
  · exact h x
theorem bytesOk_zero : bytesOk zeroM := fun _ => Nat.zero_lt_succ 255
end Go.Proofs.Ytlpcjonklfnejaa
