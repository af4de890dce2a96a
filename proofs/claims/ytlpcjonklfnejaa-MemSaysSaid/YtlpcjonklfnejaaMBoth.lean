/- Each act on memory, the code's and the document's, side by side. -/
import Derived.Test.YtlpcjonklfnejaaMRel
namespace Go.Proofs.Ytlpcjonklfnejaa
open Go.RowKit

theorem below_grown {W w' : World} (h : Below W.heap.size W w') (row : Option Nat) : W.grownBy w' row := ⟨h.os, h.tape, h.output, h.size, fun j hj _ => h.block j hj⟩
theorem PW_grown (B : MB) (m : MS) (k : Nat) : B.W.grownBy (PW B m k) (some B.g) :=
  ⟨rfl, rfl, rfl, by show B.W.heap.size ≤ (B.W.heap.modify _ _).size; rw [Array.size_modify]; exact Nat.le_refl _, fun j _ hne => by
    show (B.W.heap.modify _ _)[j]? = _
    rw [Array.getElem?_modify, if_neg (fun e => hne (by rw [e]))]⟩
/-- A call of the code's on memory g. -/
def CodeC (fn : FuncId) (args : Array Value) (g : Nat) (m m' : MS) (v : Value) : Prop := ∀ W, IsM g m W → Calls Try.prog fn args W fun e w' => e = .returned v ∧ IsM g m' w' ∧ W.grownBy w' (some g)
/-- A call of the document's on memory g. -/
def DocC (fn : FuncId) (args : Array Value) (g : Nat) (r r' : RS) (v : Value) : Prop := ∀ W, IsR g r W → Calls Try.prog fn args W fun e w' => e = .returned v ∧ IsR g r' w' ∧ W.grownBy w' (some g)
theorem codeC_of {fn : FuncId} {args : Nat → Array Value} {g : Nat} {m m' : MS} {v : Value} (h : ∀ B : MB, Calls Try.prog fn (args B.g) (PW B m 0) fun e w' => e = .returned v ∧ ∃ k', w' = PW B m' k') : CodeC fn (args g) g m m' v := fun W hM => by
  have hc := h ⟨W, g, m, hM⟩
  rw [← PW_of hM] at hc
  exact hc.mono fun e w' ⟨he, k', hw⟩ => ⟨he, by rw [hw]; exact PW_isM _ _ _, by rw [hw]; exact PW_grown ⟨W, g, m, hM⟩ _ _⟩
theorem docC_of {fn : FuncId} {args : Nat → Array Value} {g : Nat} {r r' : RS} {v : Value} (h : ∀ B : RB, Calls Try.prog fn (args B.g) (RW B r 0) fun e w' => e = .returned v ∧ ∃ k', w' = RW B r' k') : DocC fn (args g) g r r' v := fun W hM => by
  have hc := h ⟨W, g, r, hM⟩
  rw [← RW_of hM] at hc
  exact hc.mono fun e w' ⟨he, k', hw⟩ => ⟨he, by rw [hw]; exact RW_isR _ _ _, by rw [hw]; exact RW_grown ⟨W, g, r, hM⟩ _ _⟩
theorem codeC_below {fn : FuncId} {args : Array Value} {g : Nat} {m : MS} {v : Value} (h : ∀ W, IsM g m W → Calls Try.prog fn args W fun e w' => e = .returned v ∧ Below W.heap.size W w') : CodeC fn args g m m v := fun W hM =>
  (h W hM).mono fun _e _w' ⟨he, hb⟩ => ⟨he, hM.on hb, below_grown hb _⟩
theorem docC_below {fn : FuncId} {args : Array Value} {g : Nat} {r : RS} {v : Value} (h : ∀ W, IsR g r W → Calls Try.prog fn args W fun e w' => e = .returned v ∧ Below W.heap.size W w') : DocC fn args g r r v := fun W hM =>
  (h W hM).mono fun _e _w' ⟨he, hb⟩ => ⟨he, hM.on hb, below_grown hb _⟩

variable {m : MS} {r : RS}
theorem both_map (h : Rel m r) (g g' : Nat) (n : Int) (b : Bool) : ∃ f m' r', Rel m' r' ∧ CodeC 21 #[.pointer (some ⟨g, 0, none⟩), .int .i64 n, .bool b] g m m' (errV f) ∧ DocC 22 #[.pointer (some ⟨g', 0, none⟩), .int .i64 n, .bool b] g' r r' (.int .i64 (f : Nat)) := by
  by_cases hn : 0 ≤ n ∧ n < 8
  · obtain ⟨k, rfl⟩ : ∃ k : Nat, n = k := ⟨n.toNat, by omega⟩
    refine ⟨0, _, _, rel_map h k (by omega) b, codeC_of (args := fun g => #[.pointer (some ⟨g, 0, none⟩), .int .i64 k, .bool b]) fun B => map_ok B m 0 k (by omega) b, docC_of (args := fun g => #[.pointer (some ⟨g, 0, none⟩), .int .i64 k, .bool b]) fun B => ?_⟩
    exact (rmap_ok B r 0 k b (by omega)).mono fun e w' ⟨he, hw⟩ => ⟨he, 0, hw⟩
  · refine ⟨5, m, r, h, codeC_of (args := fun g => #[.pointer (some ⟨g, 0, none⟩), .int .i64 n, .bool b]) fun B => ?_, docC_of (args := fun g => #[.pointer (some ⟨g, 0, none⟩), .int .i64 n, .bool b]) fun B => ?_⟩
    · exact (map_bad B m 0 n hn b).mono fun e w' ⟨he, hw⟩ => ⟨he, 0, hw⟩
    · exact (rmap_bad B r 0 n b (by omega)).mono fun e w' ⟨he, hw⟩ => ⟨he, 0, hw⟩
theorem both_unmap (h : Rel m r) (g g' : Nat) (n : Int) : ∃ f m' r', Rel m' r' ∧ CodeC 23 #[.pointer (some ⟨g, 0, none⟩), .int .i64 n] g m m' (errV f) ∧ DocC 24 #[.pointer (some ⟨g', 0, none⟩), .int .i64 n] g' r r' (.int .i64 (f : Nat)) := by
  by_cases hn : 0 ≤ n ∧ n < 8
  · obtain ⟨k, rfl⟩ : ∃ k : Nat, n = k := ⟨n.toNat, by omega⟩
    have hp := h.pg k (by omega)
    cases hr : m.rd k with
    | true =>
      refine ⟨0, _, _, rel_drop h k (by omega), codeC_of (args := fun g => #[.pointer (some ⟨g, 0, none⟩), .int .i64 k]) fun B => unmap_ok B m 0 k (by omega) hr, docC_of (args := fun g => #[.pointer (some ⟨g, 0, none⟩), .int .i64 k]) fun B => ?_⟩
      exact (runmap_ok B r 0 k (by omega) (hp.1 hr)).mono fun e w' ⟨he, hw⟩ => ⟨he, 0, hw⟩
    | false =>
      refine ⟨5, m, r, h, codeC_of (args := fun g => #[.pointer (some ⟨g, 0, none⟩), .int .i64 k]) fun B => unmap_no B m 0 k (by omega) hr, docC_of (args := fun g => #[.pointer (some ⟨g, 0, none⟩), .int .i64 k]) fun B => ?_⟩
      exact (runmap_no B r 0 k (by omega) (Classical.byContradiction fun e => by rw [hp.2 e] at hr; cases hr)).mono fun e w' ⟨he, hw⟩ => ⟨he, 0, hw⟩
  · refine ⟨5, m, r, h, codeC_of (args := fun g => #[.pointer (some ⟨g, 0, none⟩), .int .i64 n]) fun B => unmap_bad B m 0 n hn, docC_of (args := fun g => #[.pointer (some ⟨g, 0, none⟩), .int .i64 n]) fun B => ?_⟩
    exact (runmap_bad B r 0 n (by omega)).mono fun e w' ⟨he, hw⟩ => ⟨he, 0, hw⟩
theorem both_put (h : Rel m r) (g g' a : Nat) (s : ByteArray) (ha : a < 18446744073709551616) (hs : s.size ≤ 1000) : ∃ f m' r', Rel m' r' ∧ CodeC 25 #[.pointer (some ⟨g, 0, none⟩), .int .u64 a, .string s] g m m' (errV f) ∧ DocC 26 #[.pointer (some ⟨g', 0, none⟩), .int .u64 a, .string s] g' r r' (.int .i64 (f : Nat)) := by
  by_cases hg : ∀ i, i < s.size → rgood r (addrI a i)
  · refine ⟨0, _, _, rel_put h a s hg ha, codeC_of (args := fun g => #[.pointer (some ⟨g, 0, none⟩), .int .u64 a, .string s]) fun B => put_ok B m 0 a s ha (by omega) fun i hi => (rel_good h _).2 (hg i hi), fun W hM => ?_⟩
    refine (rput_any hM a s ha hs).mono ?_
    rintro e w' ⟨hgr, h1 | h1⟩
    · exact ⟨h1.2.1, h1.2.2, hgr⟩
    · exact absurd hg h1.1
  · have hbad : ∃ i, i < s.size ∧ ¬ goodM m (addrI a i) := by
      refine Classical.byContradiction fun hc => hg fun i hi => ?_
      exact Classical.byContradiction fun hx => hc ⟨i, hi, fun e => hx ((rel_good h _).1 e)⟩
    refine ⟨5, m, r, h, codeC_of (args := fun g => #[.pointer (some ⟨g, 0, none⟩), .int .u64 a, .string s]) fun B => put_bad B m 0 a s (by omega) hbad, fun W hM => ?_⟩
    refine (rput_any hM a s ha hs).mono ?_
    rintro e w' ⟨hgr, h1 | h1⟩
    · exact absurd h1.1 hg
    · exact ⟨h1.2.1, h1.2.2, hgr⟩
theorem both_free (h : Rel m r) (g g' a : Nat) (ha : a < 18446744073709551616) : ∃ f m' r', Rel m' r' ∧ CodeC 33 #[.pointer (some ⟨g, 0, none⟩), .int .u64 a] g m m' (errV f) ∧ DocC 34 #[.pointer (some ⟨g', 0, none⟩), .int .u64 a] g' r r' (.int .i64 (f : Nat)) := by
  by_cases hf : a % 64 = 0 ∧ 8 ≤ a / 64 ∧ a / 64 ≤ 11 ∧ r.is (a / 64) ≠ 0
  · obtain ⟨h0, h8, h11, hi⟩ := hf
    obtain ⟨q, hq⟩ : ∃ q, q = a / 64 := ⟨_, rfl⟩
    rw [← hq] at h8 h11 hi
    obtain rfl : a = q * 64 := by omega
    refine ⟨0, _, _, rel_drop h q (by omega), codeC_of (args := fun g => #[.pointer (some ⟨g, 0, none⟩), .int .u64 ((q * 64 : Nat) : Int)]) fun B => free_ok B m 0 q h8 (by omega) ((h.pg q (by omega)).2 hi), docC_of (args := fun g => #[.pointer (some ⟨g, 0, none⟩), .int .u64 ((q * 64 : Nat) : Int)]) fun B => ?_⟩
    exact (rfree_ok B r 0 q h8 h11 hi).mono fun e w' ⟨he, hw⟩ => ⟨he, 0, hw⟩
  · refine ⟨8, m, r, h, codeC_of (args := fun g => #[.pointer (some ⟨g, 0, none⟩), .int .u64 a]) fun B => free_none B m 0 a fun n h8 h12 hr e => hf ?_, docC_of (args := fun g => #[.pointer (some ⟨g, 0, none⟩), .int .u64 a]) fun B => ?_⟩
    · have e' : a = n * 64 := by omega
      subst e'
      rw [show n * 64 / 64 = n by omega]
      exact ⟨by omega, h8, by omega, (h.pg n (by omega)).1 hr⟩
    · exact (rfree_none B r 0 a ha hf).mono fun e w' ⟨he, hw⟩ => ⟨he, 0, hw⟩
theorem both_seal (h : Rel m r) (g g' : Nat) (s : ByteArray) (hs : s.size ≤ 9223372036854775807) : ∃ (f x : Nat) (m' : MS) (r' : RS), Rel m' r' ∧ CodeC 31 #[.pointer (some ⟨g, 0, none⟩), .string s] g m m' (.tuple #[.int .u64 (x : Nat), errV f]) ∧ DocC 32 #[.pointer (some ⟨g', 0, none⟩), .string s] g' r r' (.tuple #[.int .u64 (x : Nat), .int .i64 (f : Nat)]) := by
  by_cases hl : 64 < s.size
  · exact ⟨1, 0, m, r, h, codeC_of (args := fun g => #[.pointer (some ⟨g, 0, none⟩), .string s]) fun B => seal_long B m 0 s hl, docC_of (args := fun g => #[.pointer (some ⟨g, 0, none⟩), .string s]) fun B => rseal_long B r 0 s hl hs⟩
  have hpg := fun n (hn : n < 12) => h.pg n hn
  have key : ∀ q, 8 ≤ q → q < 12 → (∀ n, 8 ≤ n → n < q → m.rd n = true) → m.rd q = false → ∃ (f x : Nat) (m' : MS) (r' : RS), Rel m' r' ∧ CodeC 31 #[.pointer (some ⟨g, 0, none⟩), .string s] g m m' (.tuple #[.int .u64 (x : Nat), errV f]) ∧ DocC 32 #[.pointer (some ⟨g', 0, none⟩), .string s] g' r r' (.tuple #[.int .u64 (x : Nat), .int .i64 (f : Nat)]) := fun q h8 hq hb hr =>
    ⟨0, q * 64, _, _, rel_seal h q h8 hq hr s (by omega), codeC_of (args := fun g => #[.pointer (some ⟨g, 0, none⟩), .string s]) fun B => seal_ok B m 0 q s (by omega) h8 hq hb hr, docC_of (args := fun g => #[.pointer (some ⟨g, 0, none⟩), .string s]) fun B => rseal_ok B r 0 q s (by omega) h8 hq (fun n h8 hn => (hpg n (by omega)).1 (hb n h8 hn)) (Classical.byContradiction fun e => by rw [(hpg q hq).2 e] at hr; cases hr)⟩
  cases h8 : m.rd 8 with
  | false => exact key 8 (by omega) (by omega) (fun n a b => by omega) h8
  | true =>
    cases h9 : m.rd 9 with
    | false => exact key 9 (by omega) (by omega) (fun n a b => by rw [show n = 8 by omega]; exact h8) h9
    | true =>
      cases h10 : m.rd 10 with
      | false => exact key 10 (by omega) (by omega) (fun n a b => by rcases (show n = 8 ∨ n = 9 by omega) with rfl | rfl <;> assumption) h10
      | true =>
        cases h11 : m.rd 11 with
        | false => exact key 11 (by omega) (by omega) (fun n a b => by rcases (show n = 8 ∨ n = 9 ∨ n = 10 by omega) with rfl | rfl | rfl <;> assumption) h11
        | true =>
          have hall : ∀ n, 8 ≤ n → n < 12 → m.rd n = true := fun n a b => by rcases (show n = 8 ∨ n = 9 ∨ n = 10 ∨ n = 11 by omega) with rfl | rfl | rfl | rfl <;> assumption
          exact ⟨9, 0, m, r, h, codeC_of (args := fun g => #[.pointer (some ⟨g, 0, none⟩), .string s]) fun B => seal_full B m 0 s (by omega) hall, docC_of (args := fun g => #[.pointer (some ⟨g, 0, none⟩), .string s]) fun B => rseal_full B r 0 s (by omega) fun n a b => (hpg n b).1 (hall n a b)⟩
theorem both_byte (h : Rel m r) (g g' a : Nat) (ha : a < 18446744073709551616) : ∃ f x : Nat, CodeC 35 #[.pointer (some ⟨g, 0, none⟩), .int .u64 a] g m m (.tuple #[.int .u8 (x : Nat), errV f]) ∧ DocC 36 #[.pointer (some ⟨g', 0, none⟩), .int .u64 a] g' r r (.tuple #[.int .u8 (x : Nat), .int .i64 (f : Nat)]) := by
  have hp := congrFun (rel_peek h) a
  have hc := fun W (hM : IsM g m W) => byte_isM hM a ha
  have hd := fun W (hM : IsR g' r W) => rbyte_isR hM a ha
  rw [hp] at hc
  cases hx : rpeek r a with
  | none =>
    rw [hx] at hc hd
    exact ⟨5, 0, codeC_below fun W hM => (hc W hM).mono fun e w' ⟨he, hw⟩ => ⟨he, by rw [hw]; exact Below.refl _ _⟩, docC_below fun W hM => (hd W hM).mono fun e w' ⟨he, hw⟩ => ⟨he, by rw [hw]; exact Below.refl _ _⟩⟩
  | some x =>
    rw [hx] at hc hd
    exact ⟨0, x, codeC_below fun W hM => (hc W hM).mono fun e w' ⟨he, hw⟩ => ⟨he, by rw [hw]; exact Below.refl _ _⟩, docC_below fun W hM => (hd W hM).mono fun e w' ⟨he, hw⟩ => ⟨he, by rw [hw]; exact Below.refl _ _⟩⟩
theorem both_get (h : Rel m r) (g g' a : Nat) (n : Int) (ha : a < 18446744073709551616) : ∃ (f : Nat) (x : ByteArray), CodeC 27 #[.pointer (some ⟨g, 0, none⟩), .int .u64 a, .int .i64 n] g m m (.tuple #[.string x, errV f]) ∧ DocC 28 #[.pointer (some ⟨g', 0, none⟩), .int .u64 a, .int .i64 n] g' r r (.tuple #[.string x, .int .i64 (f : Nat)]) := by
  by_cases hn : n < 0 ∨ 512 < n
  · refine ⟨1, ⟨#[]⟩, codeC_below fun W hM => ?_, docC_below fun W hM => rget_bad hM a n hn⟩
    have hc := get_bad ⟨W, g, m, hM⟩ m 0 a n hn
    rw [← PW_of hM] at hc
    exact hc.mono fun e w' ⟨he, hw⟩ => ⟨he, by rw [hw]; exact Below.refl _ _⟩
  · obtain ⟨k, rfl⟩ : ∃ k : Nat, n = k := ⟨n.toNat, by omega⟩
    have hc := fun W (hM : IsM g m W) => get_any hM a k ha (by omega) h.mb
    have hd := fun W (hM : IsR g' r W) => rget_any hM a k ha (by omega) h.rb
    rw [getR_eq, rel_peek h] at hc
    cases hx : getP (rpeek r) a k with
    | none =>
      rw [hx] at hc hd
      exact ⟨5, _, codeC_below hc, docC_below hd⟩
    | some l =>
      rw [hx] at hc hd
      exact ⟨0, _, codeC_below hc, docC_below hd⟩
theorem both_text (h : Rel m r) (g g' a : Nat) (ha : a < 18446744073709551616) : ∃ (f : Nat) (x : ByteArray), CodeC 29 #[.pointer (some ⟨g, 0, none⟩), .int .u64 a] g m m (.tuple #[.string x, errV f]) ∧ DocC 30 #[.pointer (some ⟨g', 0, none⟩), .int .u64 a] g' r r (.tuple #[.string x, .int .i64 (f : Nat)]) := by
  have hc := fun W (hM : IsM g m W) => text_any hM a ha h.mb
  have hd := fun W (hM : IsR g' r W) => rtext_any hM a ha h.rb
  rw [rel_peek h] at hc
  exact ⟨_, _, codeC_below hc, docC_below hd⟩
theorem both_sealed (h : Rel m r) (g g' : Nat) : ∃ x : Nat, x ≤ 4 ∧ CodeC 40 #[.pointer (some ⟨g, 0, none⟩)] g m m (.int .i64 (x : Nat)) ∧ DocC 63 #[.pointer (some ⟨g', 0, none⟩)] g' r r (.int .i64 (x : Nat)) := by
  refine ⟨cntM m 4, cntM_le m 4, codeC_of (args := fun g => #[.pointer (some ⟨g, 0, none⟩)]) fun B => sealed_any B m 0, docC_of (args := fun g => #[.pointer (some ⟨g, 0, none⟩)]) fun B => ?_⟩
  rw [rel_cnt h 4 (by omega)]
  exact (rsealed_any B r 0).mono fun e w' ⟨he, hw⟩ => ⟨he, 0, hw⟩
theorem same_err (f : Nat) (w : World) : Calls Try.prog 11 #[errV f, .int .i64 f] w fun e w' => e = .returned (.bool true) ∧ w' = w := by
  by_cases h : f = 0
  · subst h
    exact (same_nil 0 w).mono fun e w' ⟨he, hw⟩ => ⟨he, hw⟩
  · rw [errV_pos h]
    refine (same_errno f f w).mono fun e w' ⟨he, hw⟩ => ⟨?_, hw⟩
    rw [he]
    congr 2
    simp
    omega
end Go.Proofs.Ytlpcjonklfnejaa
