/- Small lemmas of my own that every walk of this seat uses: a world forgotten but for what is said of it, a fact hidden, old cells behind 'Below'. -/
import Derived.Test.YtbifjokfnahiaabGreatDoorRows
import Derived.WalkKit
import Derived.WalkSpells
import Derived.WalkLawsBesides
import Derived.Deep.QuietTactic
import Derived.BigQuiet
import Derived.Handy
import Derived.Great.BuildSlice
import Derived.Deep.WholeRow
import Derived.Lib.ItoaNum
import Derived.Lib.Bytealg
import Derived.Lib.IndexLaws
import Derived.Test.YtbifjokfnahiaabGreatDoorShelf
import Derived.Lib.AppendIntMem
import Derived.Lib.SmallJoins
import Derived.Laws.Strings3
import Derived.Lib.Slices
import Derived.Laws.BitsAllLaws
namespace Go.Proofs.YtbifjokfnahiaabGreatDoor
open Go.RowKit

theorem hide {p : Prop} (h : p) : Hid p := h

/-- Of the world that a walk stands in only 'F' is kept. -/
theorem wp_forget {P : Program} {c : Code} {Q : Exit → Act → World → Prop} {a : Act} {W0 : World} (F : World → Prop) (h : F W0) (H : ∀ W, F W → Code.wp P c Q a W) : Code.wp P c Q a W0 := H _ h

theorem bcell {W w1 : World} (hb : Below W.heap.size W w1) : (∀ b o, b < W.heap.size → w1.cell? ⟨b, o, none⟩ = W.cell? ⟨b, o, none⟩) ∧ (∀ b o, b < W.heap.size → w1.frozen? ⟨b, o, none⟩ = W.frozen? ⟨b, o, none⟩) :=
  ⟨fun b o h => hb.cell (p := ⟨b, o, none⟩) h, fun b o h => hb.frozen (p := ⟨b, o, none⟩) h⟩

theorem ret_int {k : IntKind} {a b : Int} (h : a = b) : Ending.returned (.int k a) = .returned (.int k b) := by rw [h]
theorem ret_bool {a b : Bool} (h : a = b) : Ending.returned (.bool a) = .returned (.bool b) := by rw [h]

theorem below_drewN' {B : Nat} {a w : World} (h : Below B a w) (n : Nat) : Below B a (w.drewN n) := ⟨h.os, h.tape, h.output, h.size, h.block⟩

/-- 'Calls.quiet_of_same', in a world that has drawn already. -/
theorem quiet_same {P : Program} {f : FuncId} {args : Array Value} {w : World} {a n : Nat} {v : Value}
    (h : Calls P f args (w.drewN (a + n)) fun e w' => e = .returned v ∧ w' = w.drewN (a + n)) : Calls P f args (w.drewN (a + n)) fun e w'' => e = .returned v ∧ ∃ m, w'' = w.drewN (a + m) :=
  h.mono fun _ _ ⟨he, hm⟩ => ⟨he, n, hm⟩
theorem quiet_draws {P : Program} {f : FuncId} {args : Array Value} {w : World} {a n : Nat} {v : Value}
    (h : Calls P f args (w.drewN (a + n)) fun e w' => e = .returned v ∧ ∃ m, w' = (w.drewN (a + n)).drewN m) : Calls P f args (w.drewN (a + n)) fun e w'' => e = .returned v ∧ ∃ m, w'' = w.drewN (a + m) :=
  h.mono fun _ _ ⟨he, m, hm⟩ => ⟨he, n + m, by rw [hm, World.drewN_drewN, Nat.add_assoc]⟩

end Go.Proofs.YtbifjokfnahiaabGreatDoor

/- Numbers in texts: digits and what reads them; texts of numbers with signs between. No model in it. -/
namespace Go.Proofs.YtbifjokfnahiaabGreatDoor
open Go.RowKit

def isDig (c : UInt8) : Bool := decide (48 ≤ c.toNat) && decide (c.toNat ≤ 57)
def digVal (n : Nat) (l : List UInt8) : Nat := l.foldl (fun n c => n * 10 + (c.toNat - 48)) n

theorem digVal_nil (n : Nat) : digVal n [] = n := rfl
theorem digVal_cons (n : Nat) (c : UInt8) (r : List UInt8) : digVal n (c :: r) = digVal (n * 10 + (c.toNat - 48)) r := by
  unfold digVal
  rw [List.foldl_cons]
theorem digVal_snoc (c : UInt8) (l : List UInt8) (n : Nat) : digVal n (l ++ [c]) = digVal n l * 10 + (c.toNat - 48) := by
  unfold digVal
  rw [List.foldl_append, List.foldl_cons, List.foldl_nil]

theorem ofDig (d : Nat) (h : d < 10) : (UInt8.ofNat (48 + d)).toNat = 48 + d := by
  rw [UInt8.toNat_ofNat']
  exact Nat.mod_eq_of_lt (by omega)
theorem isDig_of (d : Nat) (h : d < 10) : isDig (UInt8.ofNat (48 + d)) = true := by
  unfold isDig
  rw [ofDig d h]
  simp
  omega

theorem dec_all (u : Nat) : (Lib.decDigits u).all isDig = true := by
  induction u using Nat.strongRecOn with
  | _ u ih =>
    rw [Lib.decDigits]
    split
    · rename_i h
      simp only [List.all_cons, List.all_nil, isDig_of u h, Bool.and_self]
    · rw [List.all_append, ih (u / 10) (by omega)]
      simp only [List.all_cons, List.all_nil, isDig_of (u % 10) (by omega), Bool.and_self]

theorem dec_val (u : Nat) : digVal 0 (Lib.decDigits u) = u := by
  induction u using Nat.strongRecOn with
  | _ u ih =>
    rw [Lib.decDigits]
    split
    · rename_i h
      rw [digVal_cons, digVal_nil, ofDig u h]
      omega
    · rw [digVal_snoc, ih (u / 10) (by omega), ofDig _ (by omega)]
      omega

theorem dec_ne (u : Nat) : Lib.decDigits u ≠ [] := by
  intro h
  have := congrArg List.length h
  rw [Lib.decDigits_length] at this
  have := Lib.nDigits_pos u
  simp at *
  omega

theorem head_app (a b : List UInt8) (h : a ≠ []) : (a ++ b).head? = a.head? := by
  cases a with
  | nil => exact absurd rfl h
  | cons x r => rfl

theorem dec_head (u : Nat) (h0 : 1 ≤ u) : (Lib.decDigits u).head? ≠ some 48 := by
  induction u using Nat.strongRecOn with
  | _ u ih =>
    rw [Lib.decDigits]
    split
    · rename_i h
      intro hh
      have := congrArg UInt8.toNat (Option.some.inj hh)
      rw [ofDig u h] at this
      simp at this
      omega
    · rw [head_app _ _ (dec_ne _)]
      exact ih (u / 10) (by omega) (by omega)

theorem digVal_pos : ∀ (l : List UInt8) (n : Nat), 1 ≤ n → 1 ≤ digVal n l
  | [], _, h => h
  | c :: r, n, h => by rw [digVal_cons]; exact digVal_pos r _ (by omega)

theorem digVal_head (l : List UInt8) (hn : l ≠ []) (ha : l.all isDig = true) (hh : l.head? ≠ some 48) : 1 ≤ digVal 0 l := by
  cases l with
  | nil => exact absurd rfl hn
  | cons c r =>
    rw [digVal_cons]
    refine digVal_pos r _ ?_
    simp only [List.all_cons, Bool.and_eq_true] at ha
    have h1 := ha.1
    unfold isDig at h1
    simp only [Bool.and_eq_true, decide_eq_true_eq] at h1
    have : c.toNat ≠ 48 := fun e => hh (by rw [List.head?_cons]; exact congrArg some (UInt8.toNat_inj.1 e))
    omega

theorem digit_back (c : UInt8) (h : isDig c = true) : UInt8.ofNat (48 + (c.toNat - 48)) = c := by
  unfold isDig at h
  simp only [Bool.and_eq_true, decide_eq_true_eq] at h
  apply UInt8.toNat_inj.1
  rw [ofDig _ (by omega)]
  omega
theorem digit_lt (c : UInt8) (h : isDig c = true) : c.toNat - 48 < 10 := by
  unfold isDig at h
  simp only [Bool.and_eq_true, decide_eq_true_eq] at h
  omega

/-- Digits without noughts ahead are their number's. -/
theorem dec_back : ∀ (k : Nat) (l : List UInt8), l.length = k → l ≠ [] → l.all isDig = true → (1 < l.length → l.head? ≠ some 48) → Lib.decDigits (digVal 0 l) = l
  | 0, l, hk, hn, _, _ => absurd (List.eq_nil_of_length_eq_zero hk) hn
  | k + 1, l, hk, hn, ha, hh => by
    obtain ⟨l', c, rfl⟩ : ∃ l' c, l = l' ++ [c] := ⟨l.dropLast, l.getLast hn, (List.dropLast_concat_getLast hn).symm⟩
    rw [List.all_append, Bool.and_eq_true] at ha
    obtain ⟨ha1, ha2⟩ := ha
    have hc : isDig c = true := by simpa using ha2
    have hl := digit_lt c hc
    rw [digVal_snoc]
    by_cases he : l' = []
    · subst he
      rw [digVal_nil, List.nil_append, Nat.zero_mul, Nat.zero_add, Lib.decDigits, dif_pos hl, digit_back c hc]
    · have hlen : 1 < (l' ++ [c]).length := by
        rw [List.length_append]
        have := List.length_pos_iff.2 he
        simp
        omega
      have hh' : l'.head? ≠ some 48 := by
        have := hh hlen
        rwa [head_app _ _ he] at this
      have hp := digVal_head l' he ha1 hh'
      have ih := dec_back k l' (by simpa using hk) he ha1 (fun _ => hh')
      rw [Lib.decDigits, dif_neg (by omega), show (digVal 0 l' * 10 + (c.toNat - 48)) / 10 = digVal 0 l' by omega, show (digVal 0 l' * 10 + (c.toNat - 48)) % 10 = c.toNat - 48 by omega, ih, digit_back c hc]

theorem nDigits_le5 (n : Nat) (h : n < 100000) : Lib.nDigits n ≤ 5 := by
  by_cases h1 : n < 10
  · rw [Lib.nDigits_small h1]; omega
  rw [Lib.nDigits_big h1]
  by_cases h2 : n / 10 < 10
  · rw [Lib.nDigits_small h2]; omega
  rw [Lib.nDigits_big h2]
  by_cases h3 : n / 10 / 10 < 10
  · rw [Lib.nDigits_small h3]; omega
  rw [Lib.nDigits_big h3]
  by_cases h4 : n / 10 / 10 / 10 < 10
  · rw [Lib.nDigits_small h4]; omega
  rw [Lib.nDigits_big h4, Lib.nDigits_small (by omega)]
  omega

theorem digVal_lt : ∀ (l : List UInt8) (n : Nat), l.all isDig = true → digVal n l + 1 ≤ (n + 1) * 10 ^ l.length
  | [], n, _ => by rw [digVal_nil, List.length_nil, Nat.pow_zero, Nat.mul_one]; exact Nat.le_refl _
  | c :: r, n, h => by
    simp only [List.all_cons, Bool.and_eq_true] at h
    have h1 := digVal_lt r (n * 10 + (c.toNat - 48)) h.2
    have h2 := digit_lt c h.1
    rw [digVal_cons, List.length_cons, Nat.pow_succ, Nat.mul_comm (10 ^ r.length) 10, ← Nat.mul_assoc]
    exact Nat.le_trans h1 (Nat.mul_le_mul_right _ (by omega))

/-- What 'number' reads. -/
def numR (l : List UInt8) : Option Nat := if l.length = 0 ∨ 5 < l.length ∨ (1 < l.length ∧ l.head? = some 48) ∨ l.all isDig = false then none else some (digVal 0 l)

theorem numR_dec (n : Nat) (h : n < 100000) : numR (Lib.decDigits n) = some n := by
  have h5 := nDigits_le5 n h
  have h1 := Lib.nDigits_pos n
  unfold numR
  rw [if_neg, dec_val]
  rw [Lib.decDigits_length, dec_all]
  rintro (h | h | ⟨h, h'⟩ | h)
  · omega
  · omega
  · refine dec_head n ?_ h'
    by_cases h0 : n = 0
    · subst h0
      rw [Lib.nDigits_small (by decide)] at h
      omega
    · omega
  · cases h
theorem numR_some {l : List UInt8} {n : Nat} (h : numR l = some n) : l = Lib.decDigits n ∧ n < 100000 := by
  unfold numR at h
  split at h
  · cases h
  · rename_i hc
    have hc1 : ¬ l.length = 0 := fun e => hc (Or.inl e)
    have hc2 : ¬ 5 < l.length := fun e => hc (Or.inr (Or.inl e))
    have hc3 : 1 < l.length → l.head? ≠ some 48 := fun e e' => hc (Or.inr (Or.inr (Or.inl ⟨e, e'⟩)))
    have hc4 : l.all isDig = true := by
      cases hb : l.all isDig
      · exact absurd (Or.inr (Or.inr (Or.inr hb))) hc
      · rfl
    have hb := dec_back l.length l rfl (fun e => hc1 (by rw [e]; rfl)) hc4 hc3
    rw [Option.some.inj h] at hb
    refine ⟨hb.symm, ?_⟩
    have h1 := Lib.lt_pow_nDigits n
    have h2 : Lib.nDigits n ≤ 5 := by
      rw [← Lib.decDigits_length, hb]
      omega
    exact Nat.lt_of_lt_of_le h1 (Nat.pow_le_pow_right (n := 10) (j := 5) (by decide) h2)

/-- Numbers, signs between. -/
def joinN : List UInt8 → List Nat → List UInt8
  | c :: cs, n :: ns => Lib.decDigits n ++ c :: joinN cs ns
  | _, n :: _ => Lib.decDigits n
  | _, [] => []

theorem indexByte_app (c : UInt8) (b : List UInt8) : ∀ a : List UInt8, c ∉ a → Lib.indexByte (a ++ c :: b) c = a.length
  | [], _ => by rw [List.nil_append, Lib.indexByte, if_pos (by simp)]; rfl
  | x :: a, h => by
    have h1 : x ≠ c := fun e => h (by rw [e]; exact List.mem_cons_self ..)
    rw [List.cons_append, Lib.indexByte, indexByte_app c b a (fun e => h (List.mem_cons_of_mem _ e)), if_neg (by simpa using h1), if_neg (by simp)]
    simp
theorem indexByte_split (l : List UInt8) (c : UInt8) (i : Nat) (h : Lib.indexByte l c = i) : i < l.length ∧ l = l.take i ++ c :: l.drop (i + 1) := by
  obtain ⟨h1, _⟩ := Lib.indexByte_some h
  obtain ⟨hi, he⟩ := List.getElem?_eq_some_iff.1 h1
  refine ⟨hi, ?_⟩
  rw [← he]
  simp
theorem sign_notin (c : UInt8) (hc : isDig c = false) (n : Nat) : c ∉ Lib.decDigits n := fun h => by
  have := List.all_eq_true.1 (dec_all n) c h
  rw [hc] at this
  cases this

/-- What 'split' gives. -/
def splitN : List UInt8 → List UInt8 → Option (List Nat)
  | [], s => (numR s).map fun n => [n]
  | c :: cs, s => if Lib.indexByte s c < 0 then none else
      (numR (s.take (Lib.indexByte s c).toNat)).bind fun n => (splitN cs (s.drop ((Lib.indexByte s c).toNat + 1))).map fun ns => n :: ns

theorem splitN_join : ∀ (cs : List UInt8) (ns : List Nat), (∀ c ∈ cs, isDig c = false) → ns.length = cs.length + 1 → (∀ n ∈ ns, n < 100000) → splitN cs (joinN cs ns) = some ns
  | [], [n], _, _, h => by
    show (numR (Lib.decDigits n)).map _ = _
    rw [numR_dec n (h n (List.mem_cons_self ..))]
    rfl
  | c :: cs, n :: ns, hc, hl, h => by
    have hi : Lib.indexByte (Lib.decDigits n ++ c :: joinN cs ns) c = (Lib.decDigits n).length := indexByte_app c _ _ (sign_notin c (hc c (List.mem_cons_self ..)) n)
    show splitN (c :: cs) (Lib.decDigits n ++ c :: joinN cs ns) = _
    rw [splitN, hi, if_neg (by omega), Int.toNat_natCast, List.take_left' rfl, numR_dec n (h n (List.mem_cons_self ..)), List.drop_append, List.drop_eq_nil_of_le (by omega), show (Lib.decDigits n).length + 1 - (Lib.decDigits n).length = 1 by omega]
    show ((splitN cs (joinN cs ns)).map fun ns => n :: ns) = _
    rw [splitN_join cs ns (fun d hd => hc d (List.mem_cons_of_mem _ hd)) (by simpa using hl) (fun m hm => h m (List.mem_cons_of_mem _ hm))]
    rfl
  | [], [], _, hl, _ => by simp at hl
  | [], _ :: _ :: _, _, hl, _ => by simp at hl
  | _ :: _, [], _, hl, _ => by simp at hl
theorem splitN_some : ∀ (cs : List UInt8) (s : List UInt8) (ns : List Nat), splitN cs s = some ns → ns.length = cs.length + 1 ∧ (∀ n ∈ ns, n < 100000) ∧ s = joinN cs ns
  | [], s, ns, h => by
    rw [splitN, Option.map_eq_some_iff] at h
    obtain ⟨n, hn, rfl⟩ := h
    obtain ⟨h1, h2⟩ := numR_some hn
    refine ⟨rfl, fun m hm => ?_, h1⟩
    rw [List.mem_singleton.1 hm]
    exact h2
  | c :: cs, s, ns, h => by
    rw [splitN] at h
    split at h
    · cases h
    · rename_i hi
      rw [Option.bind_eq_some_iff] at h
      obtain ⟨n, hn, h⟩ := h
      rw [Option.map_eq_some_iff] at h
      obtain ⟨ns', hns, rfl⟩ := h
      obtain ⟨h1, h2⟩ := numR_some hn
      obtain ⟨h3, h4, h5⟩ := splitN_some cs _ ns' hns
      refine ⟨by rw [List.length_cons, h3, List.length_cons], fun m hm => ?_, ?_⟩
      · rcases List.mem_cons.1 hm with rfl | hm
        · exact h2
        · exact h4 m hm
      · obtain ⟨_, he⟩ := indexByte_split s c (Lib.indexByte s c).toNat (by omega)
        show s = Lib.decDigits n ++ c :: joinN cs ns'
        rw [← h1, ← h5]
        exact he
end Go.Proofs.YtbifjokfnahiaabGreatDoor

/- strconv.Itoa and strings.Cut at this seat. -/
namespace Go.Proofs.YtbifjokfnahiaabGreatDoor
open Go.RowKit

/-- The library's table of powers of ten lies there. -/
def Tab (w : World) : Prop := Lib.TabIs Tryz.prog w "internal/strconv.uint64pow10" .u64 Lib.pow10Tab
theorem tab_on {w w' : World} (h : Tab w) (hb : Below w.heap.size w w') : Tab w' := Lib.tabBelow_of_tabIs h w' hb

theorem itoa_any (n : Nat) (hn : n ≤ 9223372036854775807) (w : World) (ht : Tab w) : Calls Tryz.prog 36 #[.int .i64 n] w fun e w' => e = .returned (.string ⟨(Lib.decDigits n).toArray⟩) ∧ Below w.heap.size w w' :=
  (Tryz.strconv_Itoa n (by omega) (by omega) w ht).mono fun e w' ⟨he, k, os, hw⟩ => ⟨by rw [he, Lib.itoa_nonneg], by
    rw [hw]
    exact ⟨rfl, rfl, rfl, by simp [Sort.grow], fun k hk => by simp [Sort.grow, Array.getElem?_append_left hk]⟩⟩

theorem lite_cut_hit (s sep : ByteArray) (i : Nat) (hx : ∀ w, Calls Tryz.prog 66 #[.string s, .string sep] w fun e w' => e = .returned (.int .i64 i) ∧ w' = w) (hl : i + sep.size ≤ s.size) (hs : s.size < 4294967296) (w : World) :
    Calls Tryz.prog 119 #[.string s, .string sep] w fun e w' => e = .returned (.tuple #[.string (s.extract 0 i), .string (s.extract (i + sep.size) s.size), .bool true]) ∧ ∃ n, w' = w.drewN n := by
  have c1 : (0 : Int) ≤ i := by omega
  have c2 : (i : Int) ≤ s.size := by omega
  have c3 : (0 : Int) ≤ (i : Int) + sep.size := by omega
  have c4 : (i : Int) + sep.size ≤ s.size := by omega
  go_enter Tryz.func119, Tryz.ntmps119
  go_wp2_with (go_at_call 66; refine (hx _).mono ?_; rintro e w' ⟨rfl, rfl⟩)
  go_quiet (fail)
  go_wp2
  go_ret3
  exact ⟨rfl, _, rfl⟩

theorem cut_hit (s : ByteArray) (c : UInt8) (i : Nat) (hi : Lib.indexByte s.data.toList c = i) (hs : s.size < 4294967296) (w : World) : Calls Tryz.prog 104 #[.string s, .string ⟨#[c]⟩] w fun e w' => e = .returned (.tuple #[.string (s.extract 0 i), .string (s.extract (i + 1) s.size), .bool true]) ∧ ∃ n, w' = w.drewN n := by
  have hl : i < s.size := by
    rw [Lib.size_eq]
    exact (indexByte_split _ _ _ hi).1
  have hc := lite_cut_hit s ⟨#[c]⟩ i (fun w => (Tryz.stringslite_Index_one s c w).mono fun e w' ⟨he, hw⟩ => ⟨by rw [he, hi], hw⟩) hl hs w
  go_enter Tryz.func104, Tryz.ntmps104
  go_wp2_with (go_at_call 119; refine hc.mono ?_; rintro e w' ⟨rfl, n, rfl⟩)
  go_ret3
  exact ⟨rfl, _, rfl⟩

theorem cut_miss (s : ByteArray) (c : UInt8) (hi : Lib.indexByte s.data.toList c < 0) (w : World) : Calls Tryz.prog 104 #[.string s, .string ⟨#[c]⟩] w fun e w' => e = .returned (.tuple #[.string s, .string ⟨#[]⟩, .bool false]) ∧ ∃ n, w' = w.drewN n := by
  have hc : Calls Tryz.prog 119 #[.string s, .string ⟨#[c]⟩] w fun e w' => e = .returned (.tuple #[.string s, .string ⟨#[]⟩, .bool false]) ∧ ∃ n, w' = w.drewN n := by
    go_enter Tryz.func119, Tryz.ntmps119
    go_wp2_with (go_at_call 66; refine (Tryz.stringslite_Index_one _ _ _).mono ?_; rintro e w' ⟨rfl, rfl⟩)
    go_ret3
    exact ⟨rfl, 0, rfl⟩
  go_enter Tryz.func104, Tryz.ntmps104
  go_wp2_with (go_at_call 119; refine hc.mono ?_; rintro e w' ⟨rfl, n, rfl⟩)
  go_ret3
  exact ⟨rfl, _, rfl⟩
end Go.Proofs.YtbifjokfnahiaabGreatDoor

/- The bits of a net: masks as remainders; mask, bit. -/
namespace Go.Proofs.YtbifjokfnahiaabGreatDoor
open Go.RowKit

/-- The bits behind the first b of 32. -/
def restN (b : Nat) : Nat := 2 ^ (32 - b)
def maskN (b : Nat) : Nat := 4294967296 - restN b
theorem restN_pos (b : Nat) : 1 ≤ restN b := Nat.one_le_two_pow
theorem restN_le (b : Nat) : restN b ≤ 4294967296 := by
  unfold restN
  exact Nat.pow_le_pow_right (n := 2) (j := 32) (by decide) (by omega)
theorem maskN_lt (b : Nat) : maskN b < 4294967296 := by
  have := restN_pos b
  unfold maskN
  omega
theorem and_rest (x b : Nat) : x &&& (4294967295 - maskN b) = x % restN b := by
  have h := restN_le b
  have h1 := restN_pos b
  rw [show 4294967295 - maskN b = restN b - 1 by unfold maskN; omega]
  exact Nat.and_two_pow_sub_one_eq_mod x _
theorem and_mask (x b : Nat) (hx : x < 4294967296) (hb : b ≤ 32) : x &&& maskN b = x / restN b * restN b := by
  have e : maskN b = (2 ^ b - 1) * 2 ^ (32 - b) := by
    unfold maskN restN
    rw [Nat.sub_mul, ← Nat.pow_add, show b + (32 - b) = 32 by omega, Nat.one_mul]
  rw [e]
  unfold restN
  apply Nat.eq_of_testBit_eq
  intro i
  rw [Nat.testBit_and, Nat.testBit_mul_two_pow, Nat.testBit_mul_two_pow, Nat.testBit_two_pow_sub_one, Nat.testBit_div_two_pow]
  by_cases hi : 32 - b ≤ i
  · rw [show i - (32 - b) + (32 - b) = i by omega]
    by_cases h2 : i - (32 - b) < b
    · simp [hi, h2]
    · have : x.testBit i = false := Nat.testBit_lt_two_pow (Nat.lt_of_lt_of_le hx (Nat.pow_le_pow_right (n := 2) (i := 32) (by decide) (by omega)))
      simp [hi, h2, this]
  · simp [hi]

theorem mask_any (b : Nat) (hb : b ≤ 32) (w : World) : Calls Tryz.prog 46 #[.int .i64 b] w fun e w' => e = .returned (.int .u32 (maskN b)) ∧ w' = w := by
  go_enter Tryz.func46, Tryz.ntmps46
  go_wp2
  go_ret
  refine ⟨?_, rfl⟩
  have er : ((2 : Int) ^ (32 - b)) = (restN b : Int) := by unfold restN; simp
  have h1 := restN_pos b
  have h2 := restN_le b
  refine ret_int ?_
  rw [er]
  unfold maskN
  omega

end Go.Proofs.YtbifjokfnahiaabGreatDoor

/- A net's check: the code's and the document's. -/
namespace Go.Proofs.YtbifjokfnahiaabGreatDoor
open Go.RowKit

/-- A net, as a value. -/
abbrev netV (ip : Nat) (b lo hi : Int) : Value := .agg #[.int .u32 ip, .int .i64 b, .int .i64 lo, .int .i64 hi]
/-- What is wrong with a net: 0: nothing. -/
def faultOf (ip : Nat) (b lo hi : Int) : Nat := if b < 0 ∨ 32 < b ∨ lo < 0 ∨ 65535 < hi ∨ hi < lo then 1 else if ip % restN b.toNat = 0 then 0 else 3
def errV (n : Nat) : Value := if n = 0 then .nilIface else .iface 61 (.int .i64 n)

theorem acheck_any (ip : Nat) (hip : ip < 4294967296) (b lo hi : Int) (hb : -9223372036854775808 ≤ b ∧ b ≤ 9223372036854775807) (hl : -9223372036854775808 ≤ lo ∧ lo ≤ 9223372036854775807) (hh : -9223372036854775808 ≤ hi ∧ hi ≤ 9223372036854775807) (w : World) :
    Calls Tryz.prog 35 #[netV ip b lo hi] w fun e w' => e = .returned (errV (faultOf ip b lo hi)) ∧ Below w.heap.size w w' := by
  by_cases c0 : b < 0
  · have HF := hide (show errV (faultOf ip b lo hi) = .iface 61 (.int .i64 1) by unfold faultOf; rw [if_pos (by omega)]; rfl)
    have d0 : decide (b < 0) = true := decide_eq_true c0
    go_enter Tryz.func35, Tryz.ntmps35
    go_wp2
    go_ret
    refine ⟨by rw [HF.out]; rfl, ?_⟩
    first | exact (Below.refl _ _).alloc (Nat.le_refl _) _ | exact below_drewN' ((Below.refl _ _).alloc (Nat.le_refl _) _) _
  · have d0 : decide (b < 0) = false := decide_eq_false c0
    by_cases c1 : 32 < b
    · have HF := hide (show errV (faultOf ip b lo hi) = .iface 61 (.int .i64 1) by unfold faultOf; rw [if_pos (by omega)]; rfl)
      have d1 : decide ((32 : Int) < b) = true := decide_eq_true c1
      go_enter Tryz.func35, Tryz.ntmps35
      go_wp2
      go_ret
      refine ⟨by rw [HF.out]; rfl, ?_⟩
      first | exact (Below.refl _ _).alloc (Nat.le_refl _) _ | exact below_drewN' ((Below.refl _ _).alloc (Nat.le_refl _) _) _
    · have d1 : decide ((32 : Int) < b) = false := decide_eq_false c1
      by_cases c2 : lo < 0
      · have HF := hide (show errV (faultOf ip b lo hi) = .iface 61 (.int .i64 1) by unfold faultOf; rw [if_pos (by omega)]; rfl)
        have d2 : decide (lo < 0) = true := decide_eq_true c2
        go_enter Tryz.func35, Tryz.ntmps35
        go_wp2
        go_ret
        refine ⟨by rw [HF.out]; rfl, ?_⟩
        first | exact (Below.refl _ _).alloc (Nat.le_refl _) _ | exact below_drewN' ((Below.refl _ _).alloc (Nat.le_refl _) _) _
      · have d2 : decide (lo < 0) = false := decide_eq_false c2
        by_cases c3 : 65535 < hi
        · have HF := hide (show errV (faultOf ip b lo hi) = .iface 61 (.int .i64 1) by unfold faultOf; rw [if_pos (by omega)]; rfl)
          have d3 : decide ((65535 : Int) < hi) = true := decide_eq_true c3
          go_enter Tryz.func35, Tryz.ntmps35
          go_wp2
          go_ret
          refine ⟨by rw [HF.out]; rfl, ?_⟩
          first | exact (Below.refl _ _).alloc (Nat.le_refl _) _ | exact below_drewN' ((Below.refl _ _).alloc (Nat.le_refl _) _) _
        · have d3 : decide ((65535 : Int) < hi) = false := decide_eq_false c3
          by_cases c4 : hi < lo
          · have HF := hide (show errV (faultOf ip b lo hi) = .iface 61 (.int .i64 1) by unfold faultOf; rw [if_pos (by omega)]; rfl)
            have d4 : decide (hi < lo) = true := decide_eq_true c4
            go_enter Tryz.func35, Tryz.ntmps35
            go_wp2
            go_ret
            refine ⟨by rw [HF.out]; rfl, ?_⟩
            first | exact (Below.refl _ _).alloc (Nat.le_refl _) _ | exact below_drewN' ((Below.refl _ _).alloc (Nat.le_refl _) _) _
          · have d4 : decide (hi < lo) = false := decide_eq_false c4
            obtain ⟨k, rfl⟩ : ∃ k : Nat, b = k := ⟨b.toNat, by omega⟩
            have hk : k ≤ 32 := by omega
            have er : bits .andNot .u32 (ip : Int) (maskN k : Int) = ((ip % restN k : Nat) : Int) := by rw [u32_andNot_nat _ _ hip (maskN_lt k), and_rest]
            by_cases cr : ip % restN k = 0
            · have HF := hide (show errV (faultOf ip (k : Int) lo hi) = .nilIface by unfold faultOf; rw [if_neg (by omega), Int.toNat_natCast, if_pos cr]; rfl)
              have bn : (((ip % restN k : Nat) : Int) == 0) = true := by rw [beq_iff_eq]; omega
              clear cr
              go_enter Tryz.func35, Tryz.ntmps35
              go_wp2
              go_quiet ((go_at_call 46; first | exact Calls.quiet_of_same (mask_any k hk _) | exact quiet_same (mask_any k hk _)))
              go_wp2
              go_ret
              refine ⟨by rw [HF.out]; rfl, ?_⟩
              first | exact (Below.refl _ _).alloc (Nat.le_refl _) _ | exact below_drewN' ((Below.refl _ _).alloc (Nat.le_refl _) _) _
            · have HF := hide (show errV (faultOf ip (k : Int) lo hi) = .iface 61 (.int .i64 3) by unfold faultOf; rw [if_neg (by omega), Int.toNat_natCast, if_neg cr]; rfl)
              have bn : (((ip % restN k : Nat) : Int) == 0) = false := by rw [beq_eq_false_iff_ne]; omega
              clear cr
              go_enter Tryz.func35, Tryz.ntmps35
              go_wp2
              go_quiet ((go_at_call 46; first | exact Calls.quiet_of_same (mask_any k hk _) | exact quiet_same (mask_any k hk _)))
              go_wp2
              go_ret
              refine ⟨by rw [HF.out]; rfl, ?_⟩
              first | exact (Below.refl _ _).alloc (Nat.le_refl _) _ | exact below_drewN' ((Below.refl _ _).alloc (Nat.le_refl _) _) _
end Go.Proofs.YtbifjokfnahiaabGreatDoor

/- A net's text, and what it is read as. No walk in it. -/
namespace Go.Proofs.YtbifjokfnahiaabGreatDoor
open Go.RowKit

def signsL : List UInt8 := [46, 46, 46, 47, 58, 45]
def ipOf (a b c d : Nat) : Nat := ((a * 256 + b) * 256 + c) * 256 + d
def netNums (ip b lo hi : Nat) : List Nat := [ip / 16777216, ip / 65536 % 256, ip / 256 % 256, ip % 256, b, lo, hi]
def netText (ip b lo hi : Nat) : List UInt8 := joinN signsL (netNums ip b lo hi)

def parseR (s : List UInt8) : Option (Nat × Nat × Nat × Nat) := match splitN signsL s with
  | some [a, b, c, d, e, f, g] => if a ≤ 255 ∧ b ≤ 255 ∧ c ≤ 255 ∧ d ≤ 255 ∧ faultOf (ipOf a b c d) e f g = 0 then some (ipOf a b c d, e, f, g) else none
  | _ => none

theorem fault_ok {ip : Nat} {b lo hi : Int} (h : faultOf ip b lo hi = 0) : (0 ≤ b ∧ b ≤ 32) ∧ (0 ≤ lo ∧ lo ≤ hi ∧ hi ≤ 65535) ∧ ip % restN b.toNat = 0 := by
  unfold faultOf at h
  split at h
  · simp at h
  · split at h
    · rename_i h1 h2
      exact ⟨by omega, by omega, h2⟩
    · simp at h

theorem signs_no : ∀ c ∈ signsL, isDig c = false := by decide +kernel

theorem split_text {ip b lo hi : Nat} (hip : ip < 4294967296) (hf : faultOf ip b lo hi = 0) : splitN signsL (netText ip b lo hi) = some (netNums ip b lo hi) := by
  obtain ⟨h1, h2, _⟩ := fault_ok hf
  refine splitN_join signsL _ signs_no rfl fun n hn => ?_
  simp only [netNums, List.mem_cons, List.not_mem_nil, or_false] at hn
  omega

theorem ipOf_parts (ip : Nat) (hip : ip < 4294967296) : ipOf (ip / 16777216) (ip / 65536 % 256) (ip / 256 % 256) (ip % 256) = ip := by
  unfold ipOf
  omega

theorem parse_text {ip b lo hi : Nat} (hip : ip < 4294967296) (hf : faultOf ip b lo hi = 0) : parseR (netText ip b lo hi) = some (ip, b, lo, hi) := by
  unfold parseR
  rw [split_text hip hf]
  show (if _ then _ else _) = _
  rw [ipOf_parts ip hip, if_pos ⟨by omega, by omega, by omega, by omega, hf⟩]

theorem len7 {l : List Nat} (h : l.length = 7) : ∃ a b c d e f g, l = [a, b, c, d, e, f, g] := by
  match l, h with
  | [a, b, c, d, e, f, g], _ => exact ⟨a, b, c, d, e, f, g, rfl⟩

theorem ipOf_lt {a b c d : Nat} (ha : a ≤ 255) (hb : b ≤ 255) (hc : c ≤ 255) (hd : d ≤ 255) : ipOf a b c d < 4294967296 := by
  unfold ipOf
  omega

theorem nums_back {a b c d : Nat} (_ha : a ≤ 255) (hb : b ≤ 255) (hc : c ≤ 255) (hd : d ≤ 255) (e f g : Nat) : netNums (ipOf a b c d) e f g = [a, b, c, d, e, f, g] := by
  unfold netNums ipOf
  rw [show (((a * 256 + b) * 256 + c) * 256 + d) / 16777216 = a by omega, show (((a * 256 + b) * 256 + c) * 256 + d) / 65536 % 256 = b by omega, show (((a * 256 + b) * 256 + c) * 256 + d) / 256 % 256 = c by omega, show (((a * 256 + b) * 256 + c) * 256 + d) % 256 = d by omega]

theorem parse_some {s : List UInt8} {ip b lo hi : Nat} (h : parseR s = some (ip, b, lo, hi)) : ip < 4294967296 ∧ faultOf ip b lo hi = 0 ∧ s = netText ip b lo hi := by
  unfold parseR at h
  split at h
  · rename_i a b' c d e f g hs
    split at h
    · rename_i hc
      obtain ⟨h1, h2, h3, h4, h5⟩ := hc
      have h' := Option.some.inj h
      simp only [Prod.mk.injEq] at h'
      obtain ⟨rfl, rfl, rfl, rfl⟩ := h'
      refine ⟨ipOf_lt h1 h2 h3 h4, h5, ?_⟩
      obtain ⟨_, _, h6⟩ := splitN_some _ _ _ hs
      unfold netText
      rw [nums_back h1 h2 h3 h4]
      exact h6
    · cases h
  · cases h
end Go.Proofs.YtbifjokfnahiaabGreatDoor

/- How the document reads a net's text: numbers one behind the other, whatever signs between. No model in it. -/
namespace Go.Proofs.YtbifjokfnahiaabGreatDoor
open Go.RowKit

def figN (l : List UInt8) : Nat := if 20 < l.length ∨ l.all isDig = false then 0 else digVal 0 l % 18446744073709551616
def figOk (l : List UInt8) : Bool := if 20 < l.length ∨ l.all isDig = false then false else Lib.decDigits (figN l) == l
def fig70 (l : List UInt8) : Option Nat := if figOk l = true ∧ figN l ≤ 70000 then some (figN l) else none

theorem fig70_dec (n : Nat) (h : n ≤ 70000) : fig70 (Lib.decDigits n) = some n := by
  have h5 := nDigits_le5 n (by omega)
  have hc : ¬ (20 < (Lib.decDigits n).length ∨ (Lib.decDigits n).all isDig = false) := by
    rw [Lib.decDigits_length, dec_all]
    rintro (h | h)
    · omega
    · cases h
  have e : figN (Lib.decDigits n) = n := by
    unfold figN
    rw [if_neg hc, dec_val, Nat.mod_eq_of_lt (by omega)]
  unfold fig70 figOk
  rw [e, if_neg hc, if_pos ⟨by simp, h⟩]

def scanN : List UInt8 → List UInt8 → Nat → Option (List Nat)
  | cur, [], k => (fig70 cur).bind fun x => if k ≤ 6 then some [x] else none
  | cur, c :: r, k => if isDig c = true then scanN (cur ++ [c]) r k else (fig70 cur).bind fun x => if k ≤ 6 then (scanN [] r (k + 1)).map fun ns => x :: ns else none

theorem scanN_digits (k : Nat) (r : List UInt8) : ∀ (l cur : List UInt8), l.all isDig = true → scanN cur (l ++ r) k = scanN (cur ++ l) r k
  | [], cur, _ => by simp
  | c :: l, cur, h => by
    simp only [List.all_cons, Bool.and_eq_true] at h
    rw [List.cons_append, scanN, if_pos h.1, scanN_digits k r l (cur ++ [c]) h.2, List.append_assoc, List.singleton_append]

theorem scanN_join : ∀ (cs : List UInt8) (ns : List Nat) (k : Nat), (∀ c ∈ cs, isDig c = false) → ns.length = cs.length + 1 → (∀ n ∈ ns, n ≤ 70000) → k + cs.length ≤ 6 → scanN [] (joinN cs ns) k = some ns
  | [], [n], k, _, _, h, hk => by
    have h0 : scanN [] (Lib.decDigits n ++ []) k = some [n] := by
      rw [scanN_digits k [] _ [] (dec_all n), List.nil_append, scanN, fig70_dec n (h n (List.mem_cons_self ..)), Option.bind_some, if_pos (by simpa using hk)]
    rw [List.append_nil] at h0
    exact h0
  | c :: cs, n :: ns, k, hc, hl, h, hk => by
    show scanN [] (Lib.decDigits n ++ c :: joinN cs ns) k = _
    have hk' : k + cs.length + 1 ≤ 6 := by simpa [Nat.add_assoc] using hk
    rw [scanN_digits k _ _ [] (dec_all n), List.nil_append, scanN, if_neg (by rw [hc c (List.mem_cons_self ..)]; decide), fig70_dec n (h n (List.mem_cons_self ..)), Option.bind_some, if_pos (by omega),
      scanN_join cs ns (k + 1) (fun d hd => hc d (List.mem_cons_of_mem _ hd)) (by simpa using hl) (fun m hm => h m (List.mem_cons_of_mem _ hm)) (by omega)]
    rfl
  | [], [], _, _, hl, _, _ => by simp at hl
  | [], _ :: _ :: _, _, _, hl, _, _ => by simp at hl
  | _ :: _, [], _, _, hl, _, _ => by simp at hl

/-- A text that is read as a net is scanned as its numbers. -/
theorem scan_parse {s : List UInt8} {ip b lo hi : Nat} (h : parseR s = some (ip, b, lo, hi)) : scanN [] s 0 = some (netNums ip b lo hi) := by
  obtain ⟨hip, hf, rfl⟩ := parse_some h
  obtain ⟨h1, h2, _⟩ := fault_ok hf
  refine scanN_join signsL _ 0 signs_no rfl (fun n hn => ?_) (by decide)
  simp only [netNums, List.mem_cons, List.not_mem_nil, or_false] at hn
  omega

theorem parse_none_of {s : List UInt8} (h : ∀ ip b lo hi, parseR s = some (ip, b, lo, hi) → False) : parseR s = none := by
  cases hp : parseR s with
  | none => rfl
  | some x => exact absurd hp (fun e => h _ _ _ _ e)
end Go.Proofs.YtbifjokfnahiaabGreatDoor
