/- Numbers in texts: digits and what reads them; texts of numbers with signs between. No model in it. -/
import Derived.Test.YtkeljbekbgabpaaDoorBase
import Derived.Lib.ItoaNum
import Derived.Lib.Bytealg
import Derived.Lib.IndexLaws
namespace Go.Proofs.YtkeljbekbgabpaaDoor
open Go.RowKit

def isDig (c : UInt8) : Bool := decide (48 ≤ c.toNat) && decide (c.toNat ≤ 57)
def digVal (n : Nat) (l : List UInt8) : Nat := l.foldl (fun n c => n * 10 + (c.toNat - 48)) n

theorem digVal_nil (n : Nat) : digVal n [] = n := rfl
theorem digVal_cons (n : Nat) (c : UInt8) (r : List UInt8) : digVal n (c :: r) = digVal (n * 10 + (c.toNat - 48)) r := by
  unfold digVal
  rw [List.foldl_cons]
theorem digVal_snoc (c : UInt8) (l : List UInt8) (n : Nat) : digVal n (l ++ [c]) = digVal n l * 10 + (c.toNat - 48) := by
  unfold digVal
  rw [List.foldl_append, List.foldl_cons, List.foldl_nil]

theorem ofDig (d : Nat) (h : d < 10) : (UInt8.ofNat (48 + d)).toNat = 48 + d := by
  rw [UInt8.toNat_ofNat']
  exact Nat.mod_eq_of_lt (by omega)
theorem isDig_of (d : Nat) (h : d < 10) : isDig (UInt8.ofNat (48 + d)) = true := by
  unfold isDig
  rw [ofDig d h]
  simp
  omega

theorem dec_all (u : Nat) : (Lib.decDigits u).all isDig = true := by
  induction u using Nat.strongRecOn with
  | _ u ih =>
    rw [Lib.decDigits]
    split
    · rename_i h
      simp only [List.all_cons, List.all_nil, isDig_of u h, Bool.and_self]
    · rw [List.all_append, ih (u / 10) (by omega)]
      simp only [List.all_cons, List.all_nil, isDig_of (u % 10) (by omega), Bool.and_self]

theorem dec_val (u : Nat) : digVal 0 (Lib.decDigits u) = u := by
  induction u using Nat.strongRecOn with
  | _ u ih =>
    rw [Lib.decDigits]
    split
    · rename_i h
      rw [digVal_cons, digVal_nil, ofDig u h]
      omega
    · rw [digVal_snoc, ih (u / 10) (by omega), ofDig _ (by omega)]
      omega

theorem dec_ne (u : Nat) : Lib.decDigits u ≠ [] := by
  intro h
  have := congrArg List.length h
  rw [Lib.decDigits_length] at this
  have := Lib.nDigits_pos u
  simp at *
  omega

theorem head_app (a b : List UInt8) (h : a ≠ []) : (a ++ b).head? = a.head? := by
  cases a with
  | nil => exact absurd rfl h
  | cons x r => rfl

theorem dec_head (u : Nat) (h0 : 1 ≤ u) : (Lib.decDigits u).head? ≠ some 48 := by
  induction u using Nat.strongRecOn with
  | _ u ih =>
    rw [Lib.decDigits]
    split
    · rename_i h
      intro hh
      have := congrArg UInt8.toNat (Option.some.inj hh)
      rw [ofDig u h] at this
      simp at this
      omega
    · rw [head_app _ _ (dec_ne _)]
      exact ih (u / 10) (by omega) (by omega)

theorem digVal_pos : ∀ (l : List UInt8) (n : Nat), 1 ≤ n → 1 ≤ digVal n l
  | [], _, h => h
  | c :: r, n, h => by rw [digVal_cons]; exact digVal_pos r _ (by omega)

theorem digVal_head (l : List UInt8) (hn : l ≠ []) (ha : l.all isDig = true) (hh : l.head? ≠ some 48) : 1 ≤ digVal 0 l := by
  cases l with
  | nil => exact absurd rfl hn
  | cons c r =>
    rw [digVal_cons]
    refine digVal_pos r _ ?_
    simp only [List.all_cons, Bool.and_eq_true] at ha
    have h1 := ha.1
    unfold isDig at h1
    simp only [Bool.and_eq_true, decide_eq_true_eq] at h1
    have : c.toNat ≠ 48 := fun e => hh (by rw [List.head?_cons]; exact congrArg some (UInt8.toNat_inj.1 e))
    omega

theorem digit_back (c : UInt8) (h : isDig c = true) : UInt8.ofNat (48 + (c.toNat - 48)) = c := by
  unfold isDig at h
  simp only [Bool.and_eq_true, decide_eq_true_eq] at h
  apply UInt8.toNat_inj.1
  rw [ofDig _ (by omega)]
  omega
theorem digit_lt (c : UInt8) (h : isDig c = true) : c.toNat - 48 < 10 := by
  unfold isDig at h
  simp only [Bool.and_eq_true, decide_eq_true_eq] at h
  omega

/-- Digits without noughts ahead are their number's. -/
theorem dec_back : ∀ (k : Nat) (l : List UInt8), l.length = k → l ≠ [] → l.all isDig = true → (1 < l.length → l.head? ≠ some 48) → Lib.decDigits (digVal 0 l) = l
  | 0, l, hk, hn, _, _ => absurd (List.eq_nil_of_length_eq_zero hk) hn
  | k + 1, l, hk, hn, ha, hh => by
    obtain ⟨l', c, rfl⟩ : ∃ l' c, l = l' ++ [c] := ⟨l.dropLast, l.getLast hn, (List.dropLast_concat_getLast hn).symm⟩
    rw [List.all_append, Bool.and_eq_true] at ha
    obtain ⟨ha1, ha2⟩ := ha
    have hc : isDig c = true := by simpa using ha2
    have hl := digit_lt c hc
    rw [digVal_snoc]
    by_cases he : l' = []
    · subst he
      rw [digVal_nil, List.nil_append, Nat.zero_mul, Nat.zero_add, Lib.decDigits, dif_pos hl, digit_back c hc]
    · have hlen : 1 < (l' ++ [c]).length := by
        rw [List.length_append]
        have := List.length_pos_iff.2 he
        simp
        omega
      have hh' : l'.head? ≠ some 48 := by
        have := hh hlen
        rwa [head_app _ _ he] at this
      have hp := digVal_head l' he ha1 hh'
      have ih := dec_back k l' (by simpa using hk) he ha1 (fun _ => hh')
      rw [Lib.decDigits, dif_neg (by omega), show (digVal 0 l' * 10 + (c.toNat - 48)) / 10 = digVal 0 l' by omega, show (digVal 0 l' * 10 + (c.toNat - 48)) % 10 = c.toNat - 48 by omega, ih, digit_back c hc]

theorem nDigits_le5 (n : Nat) (h : n < 100000) : Lib.nDigits n ≤ 5 := by
  by_cases h1 : n < 10
  · rw [Lib.nDigits_small h1]; omega
  rw [Lib.nDigits_big h1]
  by_cases h2 : n / 10 < 10
  · rw [Lib.nDigits_small h2]; omega
  rw [Lib.nDigits_big h2]
  by_cases h3 : n / 10 / 10 < 10
  · rw [Lib.nDigits_small h3]; omega
  rw [Lib.nDigits_big h3]
  by_cases h4 : n / 10 / 10 / 10 < 10
  · rw [Lib.nDigits_small h4]; omega
  rw [Lib.nDigits_big h4, Lib.nDigits_small (by omega)]
  omega

theorem digVal_lt : ∀ (l : List UInt8) (n : Nat), l.all isDig = true → digVal n l + 1 ≤ (n + 1) * 10 ^ l.length
  | [], n, _ => by rw [digVal_nil, List.length_nil, Nat.pow_zero, Nat.mul_one]; exact Nat.le_refl _
  | c :: r, n, h => by
    simp only [List.all_cons, Bool.and_eq_true] at h
    have h1 := digVal_lt r (n * 10 + (c.toNat - 48)) h.2
    have h2 := digit_lt c h.1
    rw [digVal_cons, List.length_cons, Nat.pow_succ, Nat.mul_comm (10 ^ r.length) 10, ← Nat.mul_assoc]
    exact Nat.le_trans h1 (Nat.mul_le_mul_right _ (by omega))

/-- What 'number' reads. -/
def numR (l : List UInt8) : Option Nat := if l.length = 0 ∨ 5 < l.length ∨ (1 < l.length ∧ l.head? = some 48) ∨ l.all isDig = false then none else some (digVal 0 l)

theorem numR_dec (n : Nat) (h : n < 100000) : numR (Lib.decDigits n) = some n := by
  have h5 := nDigits_le5 n h
  have h1 := Lib.nDigits_pos n
  unfold numR
  rw [if_neg, dec_val]
  rw [Lib.decDigits_length, dec_all]
  rintro (h | h | ⟨h, h'⟩ | h)
  · omega
  · omega
  · refine dec_head n ?_ h'
    by_cases h0 : n = 0
    · subst h0
      rw [Lib.nDigits_small (by decide)] at h
      omega
    · omega
  · cases h
theorem numR_some {l : List UInt8} {n : Nat} (h : numR l = some n) : l = Lib.decDigits n ∧ n < 100000 := by
  unfold numR at h
  split at h
  · cases h
  · rename_i hc
    have hc1 : ¬ l.length = 0 := fun e => hc (Or.inl e)
    have hc2 : ¬ 5 < l.length := fun e => hc (Or.inr (Or.inl e))
    have hc3 : 1 < l.length → l.head? ≠ some 48 := fun e e' => hc (Or.inr (Or.inr (Or.inl ⟨e, e'⟩)))
    have hc4 : l.all isDig = true := by
      cases hb : l.all isDig
      · exact absurd (Or.inr (Or.inr (Or.inr hb))) hc
      · rfl
    have hb := dec_back l.length l rfl (fun e => hc1 (by rw [e]; rfl)) hc4 hc3
    rw [Option.some.inj h] at hb
    refine ⟨hb.symm, ?_⟩
    have h1 := Lib.lt_pow_nDigits n
    have h2 : Lib.nDigits n ≤ 5 := by
      rw [← Lib.decDigits_length, hb]
      omega
    exact Nat.lt_of_lt_of_le h1 (Nat.pow_le_pow_right (n := 10) (j := 5) (by decide) h2)

/-- Numbers, signs between. -/
def joinN : List UInt8 → List Nat → List UInt8
  | c :: cs, n :: ns => Lib.decDigits n ++ c :: joinN cs ns
  | _, n :: _ => Lib.decDigits n
  | _, [] => []

theorem indexByte_app (c : UInt8) (b : List UInt8) : ∀ a : List UInt8, c ∉ a → Lib.indexByte (a ++ c :: b) c = a.length
  | [], _ => by rw [List.nil_append, Lib.indexByte, if_pos (by simp)]; rfl
  | x :: a, h => by
    have h1 : x ≠ c := fun e => h (by rw [e]; exact List.mem_cons_self ..)
    rw [List.cons_append, Lib.indexByte, indexByte_app c b a (fun e => h (List.mem_cons_of_mem _ e)), if_neg (by simpa using h1), if_neg (by simp)]
    simp
theorem indexByte_split (l : List UInt8) (c : UInt8) (i : Nat) (h : Lib.indexByte l c = i) : i < l.length ∧ l = l.take i ++ c :: l.drop (i + 1) := by
  obtain ⟨h1, _⟩ := Lib.indexByte_some h
  obtain ⟨hi, he⟩ := List.getElem?_eq_some_iff.1 h1
  refine ⟨hi, ?_⟩
  rw [← he]
  simp
theorem sign_notin (c : UInt8) (hc : isDig c = false) (n : Nat) : c ∉ Lib.decDigits n := fun h => by
  have := List.all_eq_true.1 (dec_all n) c h
  rw [hc] at this
  cases this

/-- What 'split' gives. -/
def splitN : List UInt8 → List UInt8 → Option (List Nat)
  | [], s => (numR s).map fun n => [n]
  | c :: cs, s => if Lib.indexByte s c < 0 then none else
      (numR (s.take (Lib.indexByte s c).toNat)).bind fun n => (splitN cs (s.drop ((Lib.indexByte s c).toNat + 1))).map fun ns => n :: ns

theorem splitN_join : ∀ (cs : List UInt8) (ns : List Nat), (∀ c ∈ cs, isDig c = false) → ns.length = cs.length + 1 → (∀ n ∈ ns, n < 100000) → splitN cs (joinN cs ns) = some ns
  | [], [n], _, _, h => by
    show (numR (Lib.decDigits n)).map _ = _
    rw [numR_dec n (h n (List.mem_cons_self ..))]
    rfl
  | c :: cs, n :: ns, hc, hl, h => by
    have hi : Lib.indexByte (Lib.decDigits n ++ c :: joinN cs ns) c = (Lib.decDigits n).length := indexByte_app c _ _ (sign_notin c (hc c (List.mem_cons_self ..)) n)
    show splitN (c :: cs) (Lib.decDigits n ++ c :: joinN cs ns) = _
    rw [splitN, hi, if_neg (by omega), Int.toNat_natCast, List.take_left' rfl, numR_dec n (h n (List.mem_cons_self ..)), List.drop_append, List.drop_eq_nil_of_le (by omega), show (Lib.decDigits n).length + 1 - (Lib.decDigits n).length = 1 by omega]
    show ((splitN cs (joinN cs ns)).map fun ns => n :: ns) = _
    rw [splitN_join cs ns (fun d hd => hc d (List.mem_cons_of_mem _ hd)) (by simpa using hl) (fun m hm => h m (List.mem_cons_of_mem _ hm))]
    rfl
  | [], [], _, hl, _ => by simp at hl
  | [], _ :: _ :: _, _, hl, _ => by simp at hl
  | _ :: _, [], _, hl, _ => by simp at hl
theorem splitN_some : ∀ (cs : List UInt8) (s : List UInt8) (ns : List Nat), splitN cs s = some ns → ns.length = cs.length + 1 ∧ (∀ n ∈ ns, n < 100000) ∧ s = joinN cs ns
  | [], s, ns, h => by
    rw [splitN, Option.map_eq_some_iff] at h
    obtain ⟨n, hn, rfl⟩ := h
    obtain ⟨h1, h2⟩ := numR_some hn
    refine ⟨rfl, fun m hm => ?_, h1⟩
    rw [List.mem_singleton.1 hm]
    exact h2
  | c :: cs, s, ns, h => by
    rw [splitN] at h
    split at h
    · cases h
    · rename_i hi
      rw [Option.bind_eq_some_iff] at h
      obtain ⟨n, hn, h⟩ := h
      rw [Option.map_eq_some_iff] at h
      obtain ⟨ns', hns, rfl⟩ := h
      obtain ⟨h1, h2⟩ := numR_some hn
      obtain ⟨h3, h4, h5⟩ := splitN_some cs _ ns' hns
      refine ⟨by rw [List.length_cons, h3, List.length_cons], fun m hm => ?_, ?_⟩
      · rcases List.mem_cons.1 hm with rfl | hm
        · exact h2
        · exact h4 m hm
      · obtain ⟨_, he⟩ := indexByte_split s c (Lib.indexByte s c).toNat (by omega)
        show s = Lib.decDigits n ++ c :: joinN cs ns'
        rw [← h1, ← h5]
        exact he
end Go.Proofs.YtkeljbekbgabpaaDoor
