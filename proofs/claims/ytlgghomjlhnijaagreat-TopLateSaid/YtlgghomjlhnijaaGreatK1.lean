/- The library's contracts that this seat's walks lean on, laid at its program. -/
import Derived.Shelf.Small.Strs
import Derived.Shelf.Small.Wraps
import Derived.Shelf.Strings.Prefix
import Derived.Test.YtlgghomjlhnijaaGreatProg
import Derived.Test.YtlgghomjlhnijaaGreatRows
import Derived.WalkKit
import Derived.WalkSpells
import Derived.WalkLawsBesides
import Derived.Deep.QuietTactic
import Derived.BigQuiet
import Derived.Handy
import Derived.Great.BuildSlice
import Derived.Deep.WholeRow
import Derived.Lib.ItoaNum
import Derived.Lib.Bytealg
import Derived.Lib.IndexLaws
import Derived.Lib.AppendIntMem
import Derived.Lib.SmallJoins
import Derived.Laws.Strings3
import Derived.Lib.Slices
import Derived.Laws.BitsAllLaws
import Derived.Lib.Strings
import Derived.Lib.Walk
import Derived.Laws.ResultCell
namespace Go.Proofs
open Go.Shelf
def Tryz.lays211_ren : Go.Shelf.Ren := ⟨fun | 211 => 83 | 207 => 81 | n => n, fun | 9 => 9 | 4 => 4 | 3 => 3 | n => n, fun | n => n⟩
theorem Tryz.lays211 : Go.Proofs.Lays.n211 Tryz.prog Tryz.lays211_ren := {
  mixed := by kernel_rfl
  f207 := Tryz.func81.trans (congrArg some (by kernel_rfl))
  f211 := Tryz.func83.trans (congrArg some (by kernel_rfl))
  t3 := Tryz.underlying3
  a3 := Tryz.isAgg3
  z3 := Tryz.sizeOf3
  v3 := Tryz.zeroValue3
  t4 := Tryz.underlying4
  a4 := Tryz.isAgg4
  z4 := Tryz.sizeOf4
  v4 := Tryz.zeroValue4
  t9 := Tryz.underlying9
  a9 := Tryz.isAgg9
  z9 := Tryz.sizeOf9
  v9 := Tryz.zeroValue9 }
open Go.RowKit in
/-- internal/stringslite.CutSuffix (what strings.CutSuffix calls). (LAID: no walk: one application.) -/
theorem Tryz.stringslite_CutSuffix (s p : ByteArray) (w : World) (hs : s.size ≤ 9223372036854775807) :
    Calls Tryz.prog 83 #[.string s, .string p] w fun e w' => e = .returned (.tuple #[.string ⟨(Lib.trimSuffix s.data.toList p.data.toList).toArray⟩, .bool (Lib.hasSuffix s.data.toList p.data.toList)]) ∧ w' = w := Any.stringslite_CutSuffix Tryz.lays211 s p w hs
def Tryz.lays104_ren : Go.Shelf.Ren := ⟨fun | 104 => 71 | 211 => 83 | 207 => 81 | n => n, fun | 9 => 9 | 4 => 4 | 24 => 143 | 3 => 3 | n => n, fun | n => n⟩
theorem Tryz.lays104 : Go.Proofs.Lays.n104 Tryz.prog Tryz.lays104_ren := {
  mixed := by kernel_rfl
  f104 := Tryz.func71.trans (congrArg some (by kernel_rfl))
  f207 := Tryz.func81.trans (congrArg some (by kernel_rfl))
  f211 := Tryz.func83.trans (congrArg some (by kernel_rfl))
  t3 := Tryz.underlying3
  a3 := Tryz.isAgg3
  z3 := Tryz.sizeOf3
  v3 := Tryz.zeroValue3
  t4 := Tryz.underlying4
  a4 := Tryz.isAgg4
  z4 := Tryz.sizeOf4
  v4 := Tryz.zeroValue4
  t9 := Tryz.underlying9
  a9 := Tryz.isAgg9
  z9 := Tryz.sizeOf9
  v9 := Tryz.zeroValue9
  t24 := Tryz.underlying143
  a24 := Tryz.isAgg143
  z24 := Tryz.sizeOf143
  v24 := Tryz.zeroValue143 }
open Go.RowKit in
/-- strings.CutSuffix: "CutSuffix returns s without the provided ending suffix string and reports whether it found the suffix. If s doesn't end with suffix, CutSuffix returns s, false. If suffix is the empty string, CutSuffix returns s, true.": IT RETURNS '(Lib.trimSuffix s p, Lib.hasSuffix s p)'; the world is as it was. (LAID: no walk: one application.) -/
theorem Tryz.strings_CutSuffix (s p : ByteArray) (w : World) (hs : s.size ≤ 9223372036854775807) :
    Calls Tryz.prog 71 #[.string s, .string p] w fun e w' => e = .returned (.tuple #[.string ⟨(Lib.trimSuffix s.data.toList p.data.toList).toArray⟩, .bool (Lib.hasSuffix s.data.toList p.data.toList)]) ∧ w' = w := Any.strings_CutSuffix Tryz.lays104 s p w hs
def Tryz.lays100_ren : Go.Shelf.Ren := ⟨fun | 100 => 69 | 207 => 81 | n => n, fun | 9 => 9 | 4 => 4 | 3 => 3 | n => n, fun | n => n⟩
theorem Tryz.lays100 : Go.Proofs.Lays.n100 Tryz.prog Tryz.lays100_ren := {
  mixed := by kernel_rfl
  f100 := Tryz.func69.trans (congrArg some (by kernel_rfl))
  f207 := Tryz.func81.trans (congrArg some (by kernel_rfl))
  t3 := Tryz.underlying3
  a3 := Tryz.isAgg3
  z3 := Tryz.sizeOf3
  v3 := Tryz.zeroValue3
  t4 := Tryz.underlying4
  a4 := Tryz.isAgg4
  z4 := Tryz.sizeOf4
  v4 := Tryz.zeroValue4
  t9 := Tryz.underlying9
  a9 := Tryz.isAgg9
  z9 := Tryz.sizeOf9
  v9 := Tryz.zeroValue9 }
open Go.RowKit Go.Lib in
/-- strings.HasSuffix: "HasSuffix reports whether the string s ends with suffix.": IT RETURNS 'Lib.hasSuffix s suffix'; the world is as it was. ('hs': no Go string is longer: a caller has it of every string that it was handed.) (LAID: no walk: one application.) -/
theorem Tryz.strings_HasSuffix (s p : ByteArray) (w : World) (hs : s.size ≤ 9223372036854775807) :
    Calls Tryz.prog 69 #[.string s, .string p] w fun e w' => e = .returned (.bool (Lib.hasSuffix s.data.toList p.data.toList)) ∧ w' = w := Any.strings_HasSuffix Tryz.lays100 s p w hs
end Go.Proofs

/- Small lemmas of my own that every walk of this seat uses: a world forgotten but for what is said of it, a fact hidden, old cells behind 'Below'. -/
namespace Go.Proofs.YtlgghomjlhnijaaGreat
open Go.RowKit

theorem hide {p : Prop} (h : p) : Hid p := h

/-- Of the world that a walk stands in only 'F' is kept. -/
theorem wp_forget {P : Program} {c : Code} {Q : Exit → Act → World → Prop} {a : Act} {W0 : World} (F : World → Prop) (h : F W0) (H : ∀ W, F W → Code.wp P c Q a W) : Code.wp P c Q a W0 := H _ h

theorem bcell {W w1 : World} (hb : Below W.heap.size W w1) : (∀ b o, b < W.heap.size → w1.cell? ⟨b, o, none⟩ = W.cell? ⟨b, o, none⟩) ∧ (∀ b o, b < W.heap.size → w1.frozen? ⟨b, o, none⟩ = W.frozen? ⟨b, o, none⟩) :=
  ⟨fun b o h => hb.cell (p := ⟨b, o, none⟩) h, fun b o h => hb.frozen (p := ⟨b, o, none⟩) h⟩

theorem ret_int {k : IntKind} {a b : Int} (h : a = b) : Ending.returned (.int k a) = .returned (.int k b) := by rw [h]
theorem ret_bool {a b : Bool} (h : a = b) : Ending.returned (.bool a) = .returned (.bool b) := by rw [h]

theorem below_drewN' {B : Nat} {a w : World} (h : Below B a w) (n : Nat) : Below B a (w.drewN n) := ⟨h.os, h.tape, h.output, h.size, h.block⟩

/-- 'Calls.quiet_of_same', in a world that has drawn already. -/
theorem quiet_same {P : Program} {f : FuncId} {args : Array Value} {w : World} {a n : Nat} {v : Value}
    (h : Calls P f args (w.drewN (a + n)) fun e w' => e = .returned v ∧ w' = w.drewN (a + n)) : Calls P f args (w.drewN (a + n)) fun e w'' => e = .returned v ∧ ∃ m, w'' = w.drewN (a + m) :=
  h.mono fun _ _ ⟨he, hm⟩ => ⟨he, n, hm⟩
theorem quiet_draws {P : Program} {f : FuncId} {args : Array Value} {w : World} {a n : Nat} {v : Value}
    (h : Calls P f args (w.drewN (a + n)) fun e w' => e = .returned v ∧ ∃ m, w' = (w.drewN (a + n)).drewN m) : Calls P f args (w.drewN (a + n)) fun e w'' => e = .returned v ∧ ∃ m, w'' = w.drewN (a + m) :=
  h.mono fun _ _ ⟨he, m, hm⟩ => ⟨he, n + m, by rw [hm, World.drewN_drewN, Nat.add_assoc]⟩

end Go.Proofs.YtlgghomjlhnijaaGreat

/- Numbers in texts: digits and what reads them; texts of numbers with signs between. No model in it. -/
namespace Go.Proofs.YtlgghomjlhnijaaGreat
open Go.RowKit

def isDig (c : UInt8) : Bool := decide (48 ≤ c.toNat) && decide (c.toNat ≤ 57)
def digVal (n : Nat) (l : List UInt8) : Nat := l.foldl (fun n c => n * 10 + (c.toNat - 48)) n

theorem digVal_nil (n : Nat) : digVal n [] = n := rfl
theorem digVal_cons (n : Nat) (c : UInt8) (r : List UInt8) : digVal n (c :: r) = digVal (n * 10 + (c.toNat - 48)) r := by
  unfold digVal
  rw [List.foldl_cons]
theorem digVal_snoc (c : UInt8) (l : List UInt8) (n : Nat) : digVal n (l ++ [c]) = digVal n l * 10 + (c.toNat - 48) := by
  unfold digVal
  rw [List.foldl_append, List.foldl_cons, List.foldl_nil]

theorem ofDig (d : Nat) (h : d < 10) : (UInt8.ofNat (48 + d)).toNat = 48 + d := by
  rw [UInt8.toNat_ofNat']
  exact Nat.mod_eq_of_lt (by omega)
theorem isDig_of (d : Nat) (h : d < 10) : isDig (UInt8.ofNat (48 + d)) = true := by
  unfold isDig
  rw [ofDig d h]
  simp
  omega

theorem dec_all (u : Nat) : (Lib.decDigits u).all isDig = true := by
  induction u using Nat.strongRecOn with
  | _ u ih =>
    rw [Lib.decDigits]
    split
    · rename_i h
      simp only [List.all_cons, List.all_nil, isDig_of u h, Bool.and_self]
    · rw [List.all_append, ih (u / 10) (by omega)]
      simp only [List.all_cons, List.all_nil, isDig_of (u % 10) (by omega), Bool.and_self]

theorem dec_val (u : Nat) : digVal 0 (Lib.decDigits u) = u := by
  induction u using Nat.strongRecOn with
  | _ u ih =>
    rw [Lib.decDigits]
    split
    · rename_i h
      rw [digVal_cons, digVal_nil, ofDig u h]
      omega
    · rw [digVal_snoc, ih (u / 10) (by omega), ofDig _ (by omega)]
      omega

theorem dec_ne (u : Nat) : Lib.decDigits u ≠ [] := by
  intro h
  have := congrArg List.length h
  rw [Lib.decDigits_length] at this
  have := Lib.nDigits_pos u
  simp at *
  omega

theorem head_app (a b : List UInt8) (h : a ≠ []) : (a ++ b).head? = a.head? := by
  cases a with
  | nil => exact absurd rfl h
  | cons x r => rfl

theorem dec_head (u : Nat) (h0 : 1 ≤ u) : (Lib.decDigits u).head? ≠ some 48 := by
  induction u using Nat.strongRecOn with
  | _ u ih =>
    rw [Lib.decDigits]
    split
    · rename_i h
      intro hh
      have := congrArg UInt8.toNat (Option.some.inj hh)
      rw [ofDig u h] at this
      simp at this
      omega
    · rw [head_app _ _ (dec_ne _)]
      exact ih (u / 10) (by omega) (by omega)

theorem digVal_pos : ∀ (l : List UInt8) (n : Nat), 1 ≤ n → 1 ≤ digVal n l
  | [], _, h => h
  | c :: r, n, h => by rw [digVal_cons]; exact digVal_pos r _ (by omega)

theorem digVal_head (l : List UInt8) (hn : l ≠ []) (ha : l.all isDig = true) (hh : l.head? ≠ some 48) : 1 ≤ digVal 0 l := by
  cases l with
  | nil => exact absurd rfl hn
  | cons c r =>
    rw [digVal_cons]
    refine digVal_pos r _ ?_
    simp only [List.all_cons, Bool.and_eq_true] at ha
    have h1 := ha.1
    unfold isDig at h1
    simp only [Bool.and_eq_true, decide_eq_true_eq] at h1
    have : c.toNat ≠ 48 := fun e => hh (by rw [List.head?_cons]; exact congrArg some (UInt8.toNat_inj.1 e))
    omega

theorem digit_back (c : UInt8) (h : isDig c = true) : UInt8.ofNat (48 + (c.toNat - 48)) = c := by
  unfold isDig at h
  simp only [Bool.and_eq_true, decide_eq_true_eq] at h
  apply UInt8.toNat_inj.1
  rw [ofDig _ (by omega)]
  omega
theorem digit_lt (c : UInt8) (h : isDig c = true) : c.toNat - 48 < 10 := by
  unfold isDig at h
  simp only [Bool.and_eq_true, decide_eq_true_eq] at h
  omega

/-- Digits without noughts ahead are their number's. -/
theorem dec_back : ∀ (k : Nat) (l : List UInt8), l.length = k → l ≠ [] → l.all isDig = true → (1 < l.length → l.head? ≠ some 48) → Lib.decDigits (digVal 0 l) = l
  | 0, l, hk, hn, _, _ => absurd (List.eq_nil_of_length_eq_zero hk) hn
  | k + 1, l, hk, hn, ha, hh => by
    obtain ⟨l', c, rfl⟩ : ∃ l' c, l = l' ++ [c] := ⟨l.dropLast, l.getLast hn, (List.dropLast_concat_getLast hn).symm⟩
    rw [List.all_append, Bool.and_eq_true] at ha
    obtain ⟨ha1, ha2⟩ := ha
    have hc : isDig c = true := by simpa using ha2
    have hl := digit_lt c hc
    rw [digVal_snoc]
    by_cases he : l' = []
    · subst he
      rw [digVal_nil, List.nil_append, Nat.zero_mul, Nat.zero_add, Lib.decDigits, dif_pos hl, digit_back c hc]
    · have hlen : 1 < (l' ++ [c]).length := by
        rw [List.length_append]
        have := List.length_pos_iff.2 he
        simp
        omega
      have hh' : l'.head? ≠ some 48 := by
        have := hh hlen
        rwa [head_app _ _ he] at this
      have hp := digVal_head l' he ha1 hh'
      have ih := dec_back k l' (by simpa using hk) he ha1 (fun _ => hh')
      rw [Lib.decDigits, dif_neg (by omega), show (digVal 0 l' * 10 + (c.toNat - 48)) / 10 = digVal 0 l' by omega, show (digVal 0 l' * 10 + (c.toNat - 48)) % 10 = c.toNat - 48 by omega, ih, digit_back c hc]

theorem nDigits_le5 (n : Nat) (h : n < 100000) : Lib.nDigits n ≤ 5 := by
  by_cases h1 : n < 10
  · rw [Lib.nDigits_small h1]; omega
  rw [Lib.nDigits_big h1]
  by_cases h2 : n / 10 < 10
  · rw [Lib.nDigits_small h2]; omega
  rw [Lib.nDigits_big h2]
  by_cases h3 : n / 10 / 10 < 10
  · rw [Lib.nDigits_small h3]; omega
  rw [Lib.nDigits_big h3]
  by_cases h4 : n / 10 / 10 / 10 < 10
  · rw [Lib.nDigits_small h4]; omega
  rw [Lib.nDigits_big h4, Lib.nDigits_small (by omega)]
  omega

theorem digVal_lt : ∀ (l : List UInt8) (n : Nat), l.all isDig = true → digVal n l + 1 ≤ (n + 1) * 10 ^ l.length
  | [], n, _ => by rw [digVal_nil, List.length_nil, Nat.pow_zero, Nat.mul_one]; exact Nat.le_refl _
  | c :: r, n, h => by
    simp only [List.all_cons, Bool.and_eq_true] at h
    have h1 := digVal_lt r (n * 10 + (c.toNat - 48)) h.2
    have h2 := digit_lt c h.1
    rw [digVal_cons, List.length_cons, Nat.pow_succ, Nat.mul_comm (10 ^ r.length) 10, ← Nat.mul_assoc]
    exact Nat.le_trans h1 (Nat.mul_le_mul_right _ (by omega))

/-- What 'number' reads. -/
def numR (l : List UInt8) : Option Nat := if l.length = 0 ∨ 5 < l.length ∨ (1 < l.length ∧ l.head? = some 48) ∨ l.all isDig = false then none else some (digVal 0 l)

theorem numR_dec (n : Nat) (h : n < 100000) : numR (Lib.decDigits n) = some n := by
  have h5 := nDigits_le5 n h
  have h1 := Lib.nDigits_pos n
  unfold numR
  rw [if_neg, dec_val]
  rw [Lib.decDigits_length, dec_all]
  rintro (h | h | ⟨h, h'⟩ | h)
  · omega
  · omega
  · refine dec_head n ?_ h'
    by_cases h0 : n = 0
    · subst h0
      rw [Lib.nDigits_small (by decide)] at h
      omega
    · omega
  · cases h
theorem numR_some {l : List UInt8} {n : Nat} (h : numR l = some n) : l = Lib.decDigits n ∧ n < 100000 := by
  unfold numR at h
  split at h
  · cases h
  · rename_i hc
    have hc1 : ¬ l.length = 0 := fun e => hc (Or.inl e)
    have hc2 : ¬ 5 < l.length := fun e => hc (Or.inr (Or.inl e))
    have hc3 : 1 < l.length → l.head? ≠ some 48 := fun e e' => hc (Or.inr (Or.inr (Or.inl ⟨e, e'⟩)))
    have hc4 : l.all isDig = true := by
      cases hb : l.all isDig
      · exact absurd (Or.inr (Or.inr (Or.inr hb))) hc
      · rfl
    have hb := dec_back l.length l rfl (fun e => hc1 (by rw [e]; rfl)) hc4 hc3
    rw [Option.some.inj h] at hb
    refine ⟨hb.symm, ?_⟩
    have h1 := Lib.lt_pow_nDigits n
    have h2 : Lib.nDigits n ≤ 5 := by
      rw [← Lib.decDigits_length, hb]
      omega
    exact Nat.lt_of_lt_of_le h1 (Nat.pow_le_pow_right (n := 10) (j := 5) (by decide) h2)

/-- Numbers, signs between. -/
def joinN : List UInt8 → List Nat → List UInt8
  | c :: cs, n :: ns => Lib.decDigits n ++ c :: joinN cs ns
  | _, n :: _ => Lib.decDigits n
  | _, [] => []

theorem indexByte_app (c : UInt8) (b : List UInt8) : ∀ a : List UInt8, c ∉ a → Lib.indexByte (a ++ c :: b) c = a.length
  | [], _ => by rw [List.nil_append, Lib.indexByte, if_pos (by simp)]; rfl
  | x :: a, h => by
    have h1 : x ≠ c := fun e => h (by rw [e]; exact List.mem_cons_self ..)
    rw [List.cons_append, Lib.indexByte, indexByte_app c b a (fun e => h (List.mem_cons_of_mem _ e)), if_neg (by simpa using h1), if_neg (by simp)]
    simp
theorem indexByte_split (l : List UInt8) (c : UInt8) (i : Nat) (h : Lib.indexByte l c = i) : i < l.length ∧ l = l.take i ++ c :: l.drop (i + 1) := by
  obtain ⟨h1, _⟩ := Lib.indexByte_some h
  obtain ⟨hi, he⟩ := List.getElem?_eq_some_iff.1 h1
  refine ⟨hi, ?_⟩
  rw [← he]
  simp
theorem sign_notin (c : UInt8) (hc : isDig c = false) (n : Nat) : c ∉ Lib.decDigits n := fun h => by
  have := List.all_eq_true.1 (dec_all n) c h
  rw [hc] at this
  cases this

/-- What 'split' gives. -/
def splitN : List UInt8 → List UInt8 → Option (List Nat)
  | [], s => (numR s).map fun n => [n]
  | c :: cs, s => if Lib.indexByte s c < 0 then none else
      (numR (s.take (Lib.indexByte s c).toNat)).bind fun n => (splitN cs (s.drop ((Lib.indexByte s c).toNat + 1))).map fun ns => n :: ns

theorem splitN_join : ∀ (cs : List UInt8) (ns : List Nat), (∀ c ∈ cs, isDig c = false) → ns.length = cs.length + 1 → (∀ n ∈ ns, n < 100000) → splitN cs (joinN cs ns) = some ns
  | [], [n], _, _, h => by
    show (numR (Lib.decDigits n)).map _ = _
    rw [numR_dec n (h n (List.mem_cons_self ..))]
    rfl
  | c :: cs, n :: ns, hc, hl, h => by
    have hi : Lib.indexByte (Lib.decDigits n ++ c :: joinN cs ns) c = (Lib.decDigits n).length := indexByte_app c _ _ (sign_notin c (hc c (List.mem_cons_self ..)) n)
    show splitN (c :: cs) (Lib.decDigits n ++ c :: joinN cs ns) = _
    rw [splitN, hi, if_neg (by omega), Int.toNat_natCast, List.take_left' rfl, numR_dec n (h n (List.mem_cons_self ..)), List.drop_append, List.drop_eq_nil_of_le (by omega), show (Lib.decDigits n).length + 1 - (Lib.decDigits n).length = 1 by omega]
    show ((splitN cs (joinN cs ns)).map fun ns => n :: ns) = _
    rw [splitN_join cs ns (fun d hd => hc d (List.mem_cons_of_mem _ hd)) (by simpa using hl) (fun m hm => h m (List.mem_cons_of_mem _ hm))]
    rfl
  | [], [], _, hl, _ => by simp at hl
  | [], _ :: _ :: _, _, hl, _ => by simp at hl
  | _ :: _, [], _, hl, _ => by simp at hl
theorem splitN_some : ∀ (cs : List UInt8) (s : List UInt8) (ns : List Nat), splitN cs s = some ns → ns.length = cs.length + 1 ∧ (∀ n ∈ ns, n < 100000) ∧ s = joinN cs ns
  | [], s, ns, h => by
    rw [splitN, Option.map_eq_some_iff] at h
    obtain ⟨n, hn, rfl⟩ := h
    obtain ⟨h1, h2⟩ := numR_some hn
    refine ⟨rfl, fun m hm => ?_, h1⟩
    rw [List.mem_singleton.1 hm]
    exact h2
  | c :: cs, s, ns, h => by
    rw [splitN] at h
    split at h
    · cases h
    · rename_i hi
      rw [Option.bind_eq_some_iff] at h
      obtain ⟨n, hn, h⟩ := h
      rw [Option.map_eq_some_iff] at h
      obtain ⟨ns', hns, rfl⟩ := h
      obtain ⟨h1, h2⟩ := numR_some hn
      obtain ⟨h3, h4, h5⟩ := splitN_some cs _ ns' hns
      refine ⟨by rw [List.length_cons, h3, List.length_cons], fun m hm => ?_, ?_⟩
      · rcases List.mem_cons.1 hm with rfl | hm
        · exact h2
        · exact h4 m hm
      · obtain ⟨_, he⟩ := indexByte_split s c (Lib.indexByte s c).toNat (by omega)
        show s = Lib.decDigits n ++ c :: joinN cs ns'
        rw [← h1, ← h5]
        exact he
end Go.Proofs.YtlgghomjlhnijaaGreat

/- strconv.Itoa and strings.Cut at this seat. -/
namespace Go.Proofs.YtlgghomjlhnijaaGreat
open Go.RowKit

end Go.Proofs.YtlgghomjlhnijaaGreat

/- The bits of a net: masks as remainders; mask, bit. -/
namespace Go.Proofs.YtlgghomjlhnijaaGreat
open Go.RowKit

/-- The bits behind the first b of 32. -/
def restN (b : Nat) : Nat := 2 ^ (32 - b)
def maskN (b : Nat) : Nat := 4294967296 - restN b
theorem restN_pos (b : Nat) : 1 ≤ restN b := Nat.one_le_two_pow
theorem restN_le (b : Nat) : restN b ≤ 4294967296 := by
  unfold restN
  exact Nat.pow_le_pow_right (n := 2) (j := 32) (by decide) (by omega)
theorem maskN_lt (b : Nat) : maskN b < 4294967296 := by
  have := restN_pos b
  unfold maskN
  omega
theorem and_rest (x b : Nat) : x &&& (4294967295 - maskN b) = x % restN b := by
  have h := restN_le b
  have h1 := restN_pos b
  rw [show 4294967295 - maskN b = restN b - 1 by unfold maskN; omega]
  exact Nat.and_two_pow_sub_one_eq_mod x _
theorem and_mask (x b : Nat) (hx : x < 4294967296) (hb : b ≤ 32) : x &&& maskN b = x / restN b * restN b := by
  have e : maskN b = (2 ^ b - 1) * 2 ^ (32 - b) := by
    unfold maskN restN
    rw [Nat.sub_mul, ← Nat.pow_add, show b + (32 - b) = 32 by omega, Nat.one_mul]
  rw [e]
  unfold restN
  apply Nat.eq_of_testBit_eq
  intro i
  rw [Nat.testBit_and, Nat.testBit_mul_two_pow, Nat.testBit_mul_two_pow, Nat.testBit_two_pow_sub_one, Nat.testBit_div_two_pow]
  by_cases hi : 32 - b ≤ i
  · rw [show i - (32 - b) + (32 - b) = i by omega]
    by_cases h2 : i - (32 - b) < b
    · simp [hi, h2]
    · have : x.testBit i = false := Nat.testBit_lt_two_pow (Nat.lt_of_lt_of_le hx (Nat.pow_le_pow_right (n := 2) (i := 32) (by decide) (by omega)))
      simp [hi, h2, this]
  · simp [hi]

theorem mask_any (b : Nat) (hb : b ≤ 32) (w : World) : Calls Tryz.prog 66 #[.int .i64 b] w fun e w' => e = .returned (.int .u32 (maskN b)) ∧ w' = w := by
  go_enter Tryz.func66, Tryz.ntmps66
  go_wp2
  go_ret
  refine ⟨?_, rfl⟩
  have er : ((2 : Int) ^ (32 - b)) = (restN b : Int) := by unfold restN; simp
  have h1 := restN_pos b
  have h2 := restN_le b
  refine ret_int ?_
  rw [er]
  unfold maskN
  omega

end Go.Proofs.YtlgghomjlhnijaaGreat

/- A net's check: the code's and the document's. -/
namespace Go.Proofs.YtlgghomjlhnijaaGreat
open Go.RowKit

/-- A net, as a value. -/
abbrev netV (ip : Nat) (b lo hi : Int) : Value := .agg #[.int .u32 ip, .int .i64 b, .int .i64 lo, .int .i64 hi]
/-- What is wrong with a net: 0: nothing. -/
def faultOf (ip : Nat) (b lo hi : Int) : Nat := if b < 0 ∨ 32 < b ∨ lo < 0 ∨ 65535 < hi ∨ hi < lo then 1 else if ip % restN b.toNat = 0 then 0 else 3
def errV (n : Nat) : Value := if n = 0 then .nilIface else .iface 93 (.int .i64 n)

theorem acheck_any (ip : Nat) (hip : ip < 4294967296) (b lo hi : Int) (hb : -9223372036854775808 ≤ b ∧ b ≤ 9223372036854775807) (hl : -9223372036854775808 ≤ lo ∧ lo ≤ 9223372036854775807) (hh : -9223372036854775808 ≤ hi ∧ hi ≤ 9223372036854775807) (w : World) :
    Calls Tryz.prog 65 #[netV ip b lo hi] w fun e w' => e = .returned (errV (faultOf ip b lo hi)) ∧ Below w.heap.size w w' := by
  by_cases c0 : b < 0
  · have HF := hide (show errV (faultOf ip b lo hi) = .iface 93 (.int .i64 1) by unfold faultOf; rw [if_pos (by omega)]; rfl)
    have d0 : decide (b < 0) = true := decide_eq_true c0
    go_enter Tryz.func65, Tryz.ntmps65
    go_wp2
    go_ret
    refine ⟨by rw [HF.out]; rfl, ?_⟩
    first | exact (Below.refl _ _).alloc (Nat.le_refl _) _ | exact below_drewN' ((Below.refl _ _).alloc (Nat.le_refl _) _) _
  · have d0 : decide (b < 0) = false := decide_eq_false c0
    by_cases c1 : 32 < b
    · have HF := hide (show errV (faultOf ip b lo hi) = .iface 93 (.int .i64 1) by unfold faultOf; rw [if_pos (by omega)]; rfl)
      have d1 : decide ((32 : Int) < b) = true := decide_eq_true c1
      go_enter Tryz.func65, Tryz.ntmps65
      go_wp2
      go_ret
      refine ⟨by rw [HF.out]; rfl, ?_⟩
      first | exact (Below.refl _ _).alloc (Nat.le_refl _) _ | exact below_drewN' ((Below.refl _ _).alloc (Nat.le_refl _) _) _
    · have d1 : decide ((32 : Int) < b) = false := decide_eq_false c1
      by_cases c2 : lo < 0
      · have HF := hide (show errV (faultOf ip b lo hi) = .iface 93 (.int .i64 1) by unfold faultOf; rw [if_pos (by omega)]; rfl)
        have d2 : decide (lo < 0) = true := decide_eq_true c2
        go_enter Tryz.func65, Tryz.ntmps65
        go_wp2
        go_ret
        refine ⟨by rw [HF.out]; rfl, ?_⟩
        first | exact (Below.refl _ _).alloc (Nat.le_refl _) _ | exact below_drewN' ((Below.refl _ _).alloc (Nat.le_refl _) _) _
      · have d2 : decide (lo < 0) = false := decide_eq_false c2
        by_cases c3 : 65535 < hi
        · have HF := hide (show errV (faultOf ip b lo hi) = .iface 93 (.int .i64 1) by unfold faultOf; rw [if_pos (by omega)]; rfl)
          have d3 : decide ((65535 : Int) < hi) = true := decide_eq_true c3
          go_enter Tryz.func65, Tryz.ntmps65
          go_wp2
          go_ret
          refine ⟨by rw [HF.out]; rfl, ?_⟩
          first | exact (Below.refl _ _).alloc (Nat.le_refl _) _ | exact below_drewN' ((Below.refl _ _).alloc (Nat.le_refl _) _) _
        · have d3 : decide ((65535 : Int) < hi) = false := decide_eq_false c3
          by_cases c4 : hi < lo
          · have HF := hide (show errV (faultOf ip b lo hi) = .iface 93 (.int .i64 1) by unfold faultOf; rw [if_pos (by omega)]; rfl)
            have d4 : decide (hi < lo) = true := decide_eq_true c4
            go_enter Tryz.func65, Tryz.ntmps65
            go_wp2
            go_ret
            refine ⟨by rw [HF.out]; rfl, ?_⟩
            first | exact (Below.refl _ _).alloc (Nat.le_refl _) _ | exact below_drewN' ((Below.refl _ _).alloc (Nat.le_refl _) _) _
          · have d4 : decide (hi < lo) = false := decide_eq_false c4
            obtain ⟨k, rfl⟩ : ∃ k : Nat, b = k := ⟨b.toNat, by omega⟩
            have hk : k ≤ 32 := by omega
            have er : bits .andNot .u32 (ip : Int) (maskN k : Int) = ((ip % restN k : Nat) : Int) := by rw [u32_andNot_nat _ _ hip (maskN_lt k), and_rest]
            by_cases cr : ip % restN k = 0
            · have HF := hide (show errV (faultOf ip (k : Int) lo hi) = .nilIface by unfold faultOf; rw [if_neg (by omega), Int.toNat_natCast, if_pos cr]; rfl)
              have bn : (((ip % restN k : Nat) : Int) == 0) = true := by rw [beq_iff_eq]; omega
              clear cr
              go_enter Tryz.func65, Tryz.ntmps65
              go_wp2
              go_quiet ((go_at_call 66; first | exact Calls.quiet_of_same (mask_any k hk _) | exact quiet_same (mask_any k hk _)))
              go_wp2
              go_ret
              refine ⟨by rw [HF.out]; rfl, ?_⟩
              first | exact (Below.refl _ _).alloc (Nat.le_refl _) _ | exact below_drewN' ((Below.refl _ _).alloc (Nat.le_refl _) _) _
            · have HF := hide (show errV (faultOf ip (k : Int) lo hi) = .iface 93 (.int .i64 3) by unfold faultOf; rw [if_neg (by omega), Int.toNat_natCast, if_neg cr]; rfl)
              have bn : (((ip % restN k : Nat) : Int) == 0) = false := by rw [beq_eq_false_iff_ne]; omega
              clear cr
              go_enter Tryz.func65, Tryz.ntmps65
              go_wp2
              go_quiet ((go_at_call 66; first | exact Calls.quiet_of_same (mask_any k hk _) | exact quiet_same (mask_any k hk _)))
              go_wp2
              go_ret
              refine ⟨by rw [HF.out]; rfl, ?_⟩
              first | exact (Below.refl _ _).alloc (Nat.le_refl _) _ | exact below_drewN' ((Below.refl _ _).alloc (Nat.le_refl _) _) _
end Go.Proofs.YtlgghomjlhnijaaGreat

/- A net's text, and what it is read as. No walk in it. -/
namespace Go.Proofs.YtlgghomjlhnijaaGreat
open Go.RowKit

def signsL : List UInt8 := [46, 46, 46, 47, 58, 45]
def ipOf (a b c d : Nat) : Nat := ((a * 256 + b) * 256 + c) * 256 + d
def netNums (ip b lo hi : Nat) : List Nat := [ip / 16777216, ip / 65536 % 256, ip / 256 % 256, ip % 256, b, lo, hi]
def netText (ip b lo hi : Nat) : List UInt8 := joinN signsL (netNums ip b lo hi)

def parseR (s : List UInt8) : Option (Nat × Nat × Nat × Nat) := match splitN signsL s with
  | some [a, b, c, d, e, f, g] => if a ≤ 255 ∧ b ≤ 255 ∧ c ≤ 255 ∧ d ≤ 255 ∧ faultOf (ipOf a b c d) e f g = 0 then some (ipOf a b c d, e, f, g) else none
  | _ => none

theorem fault_ok {ip : Nat} {b lo hi : Int} (h : faultOf ip b lo hi = 0) : (0 ≤ b ∧ b ≤ 32) ∧ (0 ≤ lo ∧ lo ≤ hi ∧ hi ≤ 65535) ∧ ip % restN b.toNat = 0 := by
  unfold faultOf at h
  split at h
  · simp at h
  · split at h
    · rename_i h1 h2
      exact ⟨by omega, by omega, h2⟩
    · simp at h

theorem signs_no : ∀ c ∈ signsL, isDig c = false := by decide +kernel

theorem split_text {ip b lo hi : Nat} (hip : ip < 4294967296) (hf : faultOf ip b lo hi = 0) : splitN signsL (netText ip b lo hi) = some (netNums ip b lo hi) := by
  obtain ⟨h1, h2, _⟩ := fault_ok hf
  refine splitN_join signsL _ signs_no rfl fun n hn => ?_
  simp only [netNums, List.mem_cons, List.not_mem_nil, or_false] at hn
  omega

theorem ipOf_parts (ip : Nat) (hip : ip < 4294967296) : ipOf (ip / 16777216) (ip / 65536 % 256) (ip / 256 % 256) (ip % 256) = ip := by
  unfold ipOf
  omega

theorem parse_text {ip b lo hi : Nat} (hip : ip < 4294967296) (hf : faultOf ip b lo hi = 0) : parseR (netText ip b lo hi) = some (ip, b, lo, hi) := by
  unfold parseR
  rw [split_text hip hf]
  show (if _ then _ else _) = _
  rw [ipOf_parts ip hip, if_pos ⟨by omega, by omega, by omega, by omega, hf⟩]

theorem len7 {l : List Nat} (h : l.length = 7) : ∃ a b c d e f g, l = [a, b, c, d, e, f, g] := by
  match l, h with
  | [a, b, c, d, e, f, g], _ => exact ⟨a, b, c, d, e, f, g, rfl⟩

theorem ipOf_lt {a b c d : Nat} (ha : a ≤ 255) (hb : b ≤ 255) (hc : c ≤ 255) (hd : d ≤ 255) : ipOf a b c d < 4294967296 := by
  unfold ipOf
  omega

theorem nums_back {a b c d : Nat} (_ha : a ≤ 255) (hb : b ≤ 255) (hc : c ≤ 255) (hd : d ≤ 255) (e f g : Nat) : netNums (ipOf a b c d) e f g = [a, b, c, d, e, f, g] := by
  unfold netNums ipOf
  rw [show (((a * 256 + b) * 256 + c) * 256 + d) / 16777216 = a by omega, show (((a * 256 + b) * 256 + c) * 256 + d) / 65536 % 256 = b by omega, show (((a * 256 + b) * 256 + c) * 256 + d) / 256 % 256 = c by omega, show (((a * 256 + b) * 256 + c) * 256 + d) % 256 = d by omega]

theorem parse_some {s : List UInt8} {ip b lo hi : Nat} (h : parseR s = some (ip, b, lo, hi)) : ip < 4294967296 ∧ faultOf ip b lo hi = 0 ∧ s = netText ip b lo hi := by
  unfold parseR at h
  split at h
  · rename_i a b' c d e f g hs
    split at h
    · rename_i hc
      obtain ⟨h1, h2, h3, h4, h5⟩ := hc
      have h' := Option.some.inj h
      simp only [Prod.mk.injEq] at h'
      obtain ⟨rfl, rfl, rfl, rfl⟩ := h'
      refine ⟨ipOf_lt h1 h2 h3 h4, h5, ?_⟩
      obtain ⟨_, _, h6⟩ := splitN_some _ _ _ hs
      unfold netText
      rw [nums_back h1 h2 h3 h4]
      exact h6
    · cases h
  · cases h
end Go.Proofs.YtlgghomjlhnijaaGreat

/- How the document reads a net's text: numbers one behind the other, whatever signs between. No model in it. -/
namespace Go.Proofs.YtlgghomjlhnijaaGreat
open Go.RowKit

def figN (l : List UInt8) : Nat := if 20 < l.length ∨ l.all isDig = false then 0 else digVal 0 l % 18446744073709551616
def figOk (l : List UInt8) : Bool := if 20 < l.length ∨ l.all isDig = false then false else Lib.decDigits (figN l) == l
def fig70 (l : List UInt8) : Option Nat := if figOk l = true ∧ figN l ≤ 70000 then some (figN l) else none

theorem fig70_dec (n : Nat) (h : n ≤ 70000) : fig70 (Lib.decDigits n) = some n := by
  have h5 := nDigits_le5 n (by omega)
  have hc : ¬ (20 < (Lib.decDigits n).length ∨ (Lib.decDigits n).all isDig = false) := by
    rw [Lib.decDigits_length, dec_all]
    rintro (h | h)
    · omega
    · cases h
  have e : figN (Lib.decDigits n) = n := by
    unfold figN
    rw [if_neg hc, dec_val, Nat.mod_eq_of_lt (by omega)]
  unfold fig70 figOk
  rw [e, if_neg hc, if_pos ⟨by simp, h⟩]

def scanN : List UInt8 → List UInt8 → Nat → Option (List Nat)
  | cur, [], k => (fig70 cur).bind fun x => if k ≤ 6 then some [x] else none
  | cur, c :: r, k => if isDig c = true then scanN (cur ++ [c]) r k else (fig70 cur).bind fun x => if k ≤ 6 then (scanN [] r (k + 1)).map fun ns => x :: ns else none

theorem scanN_digits (k : Nat) (r : List UInt8) : ∀ (l cur : List UInt8), l.all isDig = true → scanN cur (l ++ r) k = scanN (cur ++ l) r k
  | [], cur, _ => by simp
  | c :: l, cur, h => by
    simp only [List.all_cons, Bool.and_eq_true] at h
    rw [List.cons_append, scanN, if_pos h.1, scanN_digits k r l (cur ++ [c]) h.2, List.append_assoc, List.singleton_append]

theorem scanN_join : ∀ (cs : List UInt8) (ns : List Nat) (k : Nat), (∀ c ∈ cs, isDig c = false) → ns.length = cs.length + 1 → (∀ n ∈ ns, n ≤ 70000) → k + cs.length ≤ 6 → scanN [] (joinN cs ns) k = some ns
  | [], [n], k, _, _, h, hk => by
    have h0 : scanN [] (Lib.decDigits n ++ []) k = some [n] := by
      rw [scanN_digits k [] _ [] (dec_all n), List.nil_append, scanN, fig70_dec n (h n (List.mem_cons_self ..)), Option.bind_some, if_pos (by simpa using hk)]
    rw [List.append_nil] at h0
    exact h0
  | c :: cs, n :: ns, k, hc, hl, h, hk => by
    show scanN [] (Lib.decDigits n ++ c :: joinN cs ns) k = _
    have hk' : k + cs.length + 1 ≤ 6 := by simpa [Nat.add_assoc] using hk
    rw [scanN_digits k _ _ [] (dec_all n), List.nil_append, scanN, if_neg (by rw [hc c (List.mem_cons_self ..)]; decide), fig70_dec n (h n (List.mem_cons_self ..)), Option.bind_some, if_pos (by omega),
      scanN_join cs ns (k + 1) (fun d hd => hc d (List.mem_cons_of_mem _ hd)) (by simpa using hl) (fun m hm => h m (List.mem_cons_of_mem _ hm)) (by omega)]
    rfl
  | [], [], _, _, hl, _, _ => by simp at hl
  | [], _ :: _ :: _, _, _, hl, _, _ => by simp at hl
  | _ :: _, [], _, _, hl, _, _ => by simp at hl

/-- A text that is read as a net is scanned as its numbers. -/
theorem scan_parse {s : List UInt8} {ip b lo hi : Nat} (h : parseR s = some (ip, b, lo, hi)) : scanN [] s 0 = some (netNums ip b lo hi) := by
  obtain ⟨hip, hf, rfl⟩ := parse_some h
  obtain ⟨h1, h2, _⟩ := fault_ok hf
  refine scanN_join signsL _ 0 signs_no rfl (fun n hn => ?_) (by decide)
  simp only [netNums, List.mem_cons, List.not_mem_nil, or_false] at hn
  omega

theorem parse_none_of {s : List UInt8} (h : ∀ ip b lo hi, parseR s = some (ip, b, lo, hi) → False) : parseR s = none := by
  cases hp : parseR s with
  | none => rfl
  | some x => exact absurd hp (fun e => h _ _ _ _ e)
end Go.Proofs.YtlgghomjlhnijaaGreat

/- Walks of the predicates on one byte, of strings.IndexByte and strings.HasPrefix. -/
namespace Go.Proofs.YtlgghomjlhnijaaGreat.Gl
open Go.RowKit

/-- 'isName', 'letter'. -/
def nameB (b : Int) : Bool := decide (97 ≤ b) && decide (b ≤ 122) || decide (65 ≤ b) && decide (b ≤ 90) || decide (48 ≤ b) && decide (b ≤ 57) || b == 46 || b == 95
/-- One of the five signs. -/
def signB (b : Int) : Bool := b == 42 || b == 63 || b == 91 || b == 93 || b == 92
def plainB (b : Int) : Bool := decide (33 ≤ b) && decide (b ≤ 126) && b != 34 && !signB b

theorem isName_any (b : Int) (w : World) : Calls Tryz.prog 97 #[.int .u8 b] w fun e w' => e = .returned (.bool (nameB b)) ∧ w' = w := by
  go_enter Tryz.func97, Tryz.ntmps97
  go_wp2
  all_goals
    go_ret
    exact ⟨ret_bool (by rw [Bool.eq_iff_iff]; simp [nameB]; try omega), rfl⟩

set_option maxRecDepth 100000 in
theorem lite_IndexByte (s : ByteArray) (c : Int) (w : World) :
    Calls Tryz.prog 98 #[.string s, .int .u8 c] w fun e w' => e = .returned (.int .i64 (Lib.indexByte s.data.toList c.toNat.toUInt8)) ∧ w' = w := by
  go_enter Tryz.func98, Tryz.ntmps98
  go_wp2
  rw [run_callFunc_extern Tryz.func99 (by kernel_rfl) (by kernel_rfl) (by kernel_rfl) (e := Extern.BytealgIndexByte.indexByte) (by kernel_rfl), Lib.run_indexByteString]
  simp only [Result.andThen]
  rw [Oper.upon_value]
  go_wp2
  go_ret
  exact ⟨rfl, rfl⟩

theorem strings_IndexByte (s : ByteArray) (c : Int) (w : World) :
    Calls Tryz.prog 96 #[.string s, .int .u8 c] w fun e w' => e = .returned (.int .i64 (Lib.indexByte s.data.toList c.toNat.toUInt8)) ∧ w' = w := by
  go_enter Tryz.func96, Tryz.ntmps96
  go_wp2_with (go_at_call 98; refine (lite_IndexByte _ _ _).mono ?_; rintro e w' ⟨rfl, rfl⟩)
  go_ret
  exact ⟨rfl, rfl⟩

/-- Is a byte among the five signs? As Go asks it. -/
theorem signs_index (c : Nat) (hc : c < 256) : decide (Lib.indexByte [42, 63, 91, 93, 92] (UInt8.ofNat c) < 0) = !signB c := by
  have h : ∀ c : Fin 256, decide (Lib.indexByte [42, 63, 91, 93, 92] (UInt8.ofNat c.val) < 0) = !signB c.val := by decide +kernel
  exact h ⟨c, hc⟩

theorem isPlain_any (b : Nat) (hb : b < 256) (w : World) : Calls Tryz.prog 90 #[.int .u8 b] w fun e w' => e = .returned (.bool (plainB b)) ∧ w' = w := by
  have hs := signs_index b hb
  have Hs := hide hs
  clear hs
  go_enter Tryz.func90, Tryz.ntmps90
  go_wp2_with (go_at_call 96; refine (strings_IndexByte _ _ _).mono ?_; rintro e w' ⟨rfl, rfl⟩)
  · go_ret
    exact ⟨ret_bool (by rw [Bool.eq_iff_iff]; simp [plainB]; omega), rfl⟩
  · go_ret
    exact ⟨ret_bool (by rw [Hs.out]; rw [Bool.eq_iff_iff]; simp [plainB]; omega), rfl⟩
  · go_ret
    exact ⟨ret_bool (by rw [Bool.eq_iff_iff]; simp [plainB]; omega), rfl⟩
  · go_ret
    exact ⟨ret_bool (by rw [Bool.eq_iff_iff]; simp [plainB]; omega), rfl⟩

theorem lite_HasPrefix (s p : ByteArray) (w : World) :
    Calls Tryz.prog 94 #[.string s, .string p] w fun e w' => e = .returned (.bool (Lib.hasPrefix s.data.toList p.data.toList)) ∧ w' = w := by
  rw [← Lib.hasPrefix_of_take, ← Lib.size_eq, ← Lib.size_eq]
  go_enter Tryz.func94, Tryz.ntmps94
  go_wp2
  · rename_i h
    go_ret
    refine ⟨?_, rfl⟩
    show Ending.returned (Value.bool ((s.extract 0 p.size).toList == p.toList)) = _
    rw [Lib.extract_toList, Lib.toList_data]
    simp [h]
  · rename_i h
    go_ret
    refine ⟨?_, rfl⟩
    show Ending.returned (Value.bool false) = _
    simp [h]

theorem strings_HasPrefix (s p : ByteArray) (w : World) :
    Calls Tryz.prog 85 #[.string s, .string p] w fun e w' => e = .returned (.bool (Lib.hasPrefix s.data.toList p.data.toList)) ∧ w' = w := by
  go_enter Tryz.func85, Tryz.ntmps85
  go_wp2_with (go_at_call 94; refine (lite_HasPrefix _ _ _).mono ?_; rintro e w' ⟨rfl, rfl⟩)
  go_ret
  exact ⟨rfl, rfl⟩
end Go.Proofs.YtlgghomjlhnijaaGreat.Gl

/- Arrays of bools said by a function, for the walks of package glob: no array is ever written out. -/
namespace Go.Proofs.YtlgghomjlhnijaaGreat.Gl
open Go.RowKit

/-- n bools, said by a function, as the kernel reckons them. -/
def LA0 (n : Nat) (f : Nat → Bool) : Array Value := Array.ofFn (n := n) fun i => .bool (f i)
/-- The same bools, kept shut: no walk looks into them. -/
def LA (n : Nat) (f : Nat → Bool) : Array Value := if h : n = 0 then #[] else (LA (n - 1) f).push (.bool (f (n - 1)))
theorem LA_eq (n : Nat) (f : Nat → Bool) : LA n f = LA0 n f := by
  induction n with
  | zero => rw [LA]; simp [LA0]
  | succ n ih =>
    rw [LA]
    simp only [Nat.add_one_ne_zero, dite_false, Nat.add_sub_cancel, ih]
    apply Array.ext_getElem?
    intro i
    rw [Array.getElem?_push]
    have hz : (LA0 n f).size = n := by simp [LA0]
    rw [hz]
    by_cases hi : i = n
    · subst hi; simp [LA0]
    · rw [if_neg hi]
      by_cases hl : i < n
      · simp [LA0, hl, show i < n + 1 by omega]
      · simp [LA0, hl, show ¬ i < n + 1 by omega]
/-- A part of a pattern: 256 bools and one. -/
def PF (f : Nat → Bool) (m : Bool) : Nat → Bool := fun i => if i = 256 then m else f i
def upd (f : Nat → Bool) (i : Nat) (b : Bool) : Nat → Bool := fun j => if j = i then b else f j

theorem LA_size (n : Nat) (f : Nat → Bool) : (LA n f).size = n := by rw [LA_eq]; simp [LA0]
theorem LA_get (n : Nat) (f : Nat → Bool) (i : Nat) (h : i < n) : (LA n f)[i]? = some (.bool (f i)) := by rw [LA_eq]; simp [LA0, h]
theorem LA_set (n : Nat) (f : Nat → Bool) (i : Nat) (b : Bool) : (LA n f).setIfInBounds i (.bool b) = LA n (upd f i b) := by
  apply Array.ext_getElem?
  intro j
  rw [Array.getElem?_setIfInBounds]
  by_cases hj : j < n
  · rw [LA_get n f j hj, LA_get n _ j hj, LA_size]
    by_cases h : i = j
    · subst h; simp [upd, hj]
    · have h' : ¬ j = i := fun e => h e.symm
      simp [h, h', upd]
  · have e1 : (LA n f)[j]? = none := by simp [LA_size]; omega
    have e2 : (LA n (upd f i b))[j]? = none := by simp [LA_size]; omega
    rw [e1, e2, LA_size]
    by_cases h : i = j
    · subst h; simp [hj]
    · simp [h]
theorem LA_one (n : Nat) (f : Nat → Bool) : (LA n f).all (·.oneCell') = true := by
  rw [LA_eq, Array.all_eq_true]
  intro i h
  simp [LA0, Value.oneCell']
theorem LA_congr (n : Nat) (f g : Nat → Bool) (h : ∀ i, i < n → f i = g i) : LA n f = LA n g := by
  rw [LA_eq, LA_eq]
  apply Array.ext
  · simp [LA0]
  · intro i h1 h2
    simp only [LA0, Array.size_ofFn] at h1
    simp [LA0, h i h1]

theorem below_setRow {B : Nat} {a w : World} (h : Below B a w) {g : Nat} (hg : B ≤ g) (cs : Array Value) : Below B a (w.setRow g cs) :=
  ⟨h.os, h.tape, h.output, by simpa using h.size, fun k hk => (setRow_other w g k cs (by omega)).trans (h.block k hk)⟩

/-- A type's zero value, n bools. -/
theorem run_zero_LA {P : Program} {t : TypeId} {n : Nat} (h : (P.info? t).map (·.zero) = some (some (.agg (LA n fun _ => false)))) (w : World) :
    (zeroValue t).run P w = .ok (.agg (LA n fun _ => false)) w := by
  cases hq : P.info? t with
  | none => simp [hq] at h
  | some i =>
    simp [hq] at h
    simp [zeroValue, typeInfo, hq, h]

theorem zero_like : (Tryz.prog.info? 153).map (·.zero) = some (some (.agg (LA 256 fun _ => false))) := by rw [LA_eq]; kernel_rfl
theorem zero_part : (Tryz.prog.info? 155).map (·.zero) = some (some (.agg (LA 257 fun _ => false))) := by rw [LA_eq]; kernel_rfl
theorem zero_places : (Tryz.prog.info? 134).map (·.zero) = some (some (.agg (LA 25 fun _ => false))) := by rw [LA_eq]; kernel_rfl
theorem size_like : (Tryz.prog.info? 153).map (·.size) = some 256 := by kernel_rfl
theorem size_part : (Tryz.prog.info? 155).map (·.size) = some 257 := by kernel_rfl
theorem size_places : (Tryz.prog.info? 134).map (·.size) = some 25 := by kernel_rfl
theorem zv_like (w : World) : (zeroValue 153).run Tryz.prog w = .ok (.agg (LA 256 fun _ => false)) w := run_zero_LA zero_like w
theorem zv_part (w : World) : (zeroValue 155).run Tryz.prog w = .ok (.agg (LA 257 fun _ => false)) w := run_zero_LA zero_part w
theorem zv_places (w : World) : (zeroValue 134).run Tryz.prog w = .ok (.agg (LA 25 fun _ => false)) w := run_zero_LA zero_places w

theorem build_like (w : World) : (Instr.build 153 #[]).run Tryz.prog w = .ok (.agg (LA 256 fun _ => false)) w := by rw [LA_eq]; kernel_rfl
theorem build_part0 (w : World) : (Instr.build 155 #[]).run Tryz.prog w = .ok (.agg (LA 257 fun _ => false)) w := by rw [LA_eq]; kernel_rfl
theorem build_places (w : World) : (Instr.build 134 #[(0, .bool true)]).run Tryz.prog w = .ok (.agg (LA 25 fun i => i == 0)) w := by rw [LA_eq]; kernel_rfl
theorem build_part2 (f : Nat → Bool) (m : Bool) (w : World) : (Instr.build 155 #[(0, .agg (LA 256 f)), (1, .bool m)]).run Tryz.prog w = .ok (.agg (LA 257 (PF f m))) w := by rw [LA_eq, LA_eq]; kernel_rfl
theorem build_part1 (f : Nat → Bool) (w : World) : (Instr.build 155 #[(0, .agg (LA 256 f))]).run Tryz.prog w = .ok (.agg (LA 257 (PF f false))) w := by rw [LA_eq, LA_eq]; kernel_rfl
end Go.Proofs.YtlgghomjlhnijaaGreat.Gl

/- Whole arrays of bools read, laid and handed back. -/
namespace Go.Proofs.YtlgghomjlhnijaaGreat.Gl
open Go.RowKit

/-- A whole array of bools read out of its block. -/
theorem wpList_load_LA {P : Program} {ops : Array Oper} {rest : List Oper} {o : Oper} {a : Act} {w : World} {Q : Exit → Act → World → Prop} (t : TypeId) (n k : Nat) (e : TypeId) (hgd : o.guard = none) (x : Operand) (ho : o.op = .load t x)
    (g : Nat) (hx : a.eval x = .pointer (some ⟨g, 0, none⟩)) (hu : P.underlying t = some (.array k e)) (hi : (P.info? t).map (·.size) = some n) (f : Nat → Bool) (t' : TypeId) (hg : w.heap[g]? = some (.cells (LA n f) t' (0, 0)))
    (h : wpList P ops Q rest (a.put o.dst (.agg (LA n f))) w) : wpList P ops Q (o :: rest) a w :=
  wpList_load_row hgd t x ho g hx t' (LA n f) (0, 0) _ hg hu rfl (by rw [LA_size]; exact hi) h

/-- A whole array of bools laid into a block that holds as many. -/
theorem wpList_store_LA {P : Program} {ops : Array Oper} {rest : List Oper} {o : Oper} {a : Act} {w : World} {Q : Exit → Act → World → Prop} (t : TypeId) (n : Nat) (hgd : o.guard = none) (x y : Operand) (ho : o.op = .store t x y)
    (g : Nat) (hx : a.eval x = .pointer (some ⟨g, 0, none⟩)) (f : Nat → Bool) (hy : a.eval y = .agg (LA n f)) (hi : (P.info? t).map (·.size) = some n) (f' : Nat → Bool) (t' : TypeId) (hg : w.heap[g]? = some (.cells (LA n f') t' (0, 0)))
    (h : wpList P ops Q rest (a.put o.dst undef) (w.setRow g (LA n f))) : wpList P ops Q (o :: rest) a w :=
  wpList_store_row hgd t x y ho g (LA n f) hx hy t' (LA n f') hg (by rw [LA_size]; exact hi) (by rw [LA_size, LA_size]) (LA_one _ _) h

/-- The result that lies in a block of bools. -/
theorem results_LA {P : Program} {fn : Func} {p : Tmp} {t : TypeId} (n k : Nat) (e : TypeId) (h : fn.results = #[.cell p t]) (tmps : Array Value) (w : World) (g : Nat) (f : Nat → Bool) (t' : TypeId)
    (hp : tmps.getD p undef = .pointer (some ⟨g, 0, none⟩)) (hg : w.heap[g]? = some (.cells (LA n f) t' (0, 0)))
    (hu : P.underlying t = some (.array k e)) (hi : (P.info? t).map (·.size) = some n) :
    (results fn tmps).run P w = .ok (.agg (LA n f)) w :=
  results_cell_row h tmps w g t' (LA n f) (0, 0) _ hp hg hu rfl (by rw [LA_size]; exact hi)

theorem heap_setRow_same {w : World} {g : Nat} {cs : Array Value} {t : TypeId} (cs' : Array Value) (h : w.heap[g]? = some (.cells cs t (0, 0))) : (w.setRow g cs').heap[g]? = some (.cells cs' t (0, 0)) := setRow_heap w g cs cs' t (0, 0) h
theorem LA_at (n : Nat) (f : Nat → Bool) (i : Nat) (h : i < (LA n f).size) : (LA n f)[i] = .bool (f i) := by
  have := LA_get n f i (by rw [LA_size] at h; exact h)
  rw [Array.getElem?_eq_getElem h] at this
  exact Option.some.inj this
end Go.Proofs.YtlgghomjlhnijaaGreat.Gl

/- Walks of glob.only and glob.others. -/
namespace Go.Proofs.YtlgghomjlhnijaaGreat.Gl
open Go.RowKit
attribute [local go_sem] LA_set LA_get LA_size LA_at

set_option maxRecDepth 10000 in
theorem only_any (b : Nat) (hb : b < 256) (w : World) :
    Calls Tryz.prog 87 #[.int .u8 b] w fun e w' => e = .returned (.agg (LA 256 (upd (fun _ => false) b true))) ∧ Below w.heap.size w w' := by
  have ha := zv_like
  go_enter Tryz.func87, Tryz.ntmps87
  go_wp2_with (first
    | (refine wpList_load_LA 153 256 256 4 rfl _ rfl ?g ?hx Tryz.underlying153 size_like (upd (fun _ => false) b true) 153 ?hg ?h; (case g => exact w.heap.size + 1); (case hx => rfl); (case hg => with_reducible exact heap_alloc2_new _ _ _))
    | (refine wpList_store_LA 153 256 rfl _ _ rfl ?g2 ?hx2 (upd (fun _ => false) b true) ?hy2 size_like (fun _ => false) 153 ?hg2 ?h2; (case g2 => exact w.heap.size); (case hx2 => rfl); (case hy2 => rfl); (case hg2 => with_reducible exact heap_alloc2_old _ _ _))
    | (refine bodyPost_ret (results_LA 256 256 4 rfl _ _ w.heap.size _ 153 rfl (heap_setRow_same _ (heap_alloc2_old _ _ _)) Tryz.underlying153 size_like) rfl ⟨rfl, ?hb⟩; exact below_setRow (((Below.refl _ _).alloc (Nat.le_refl _) _).alloc (by simp) _) (Nat.le_refl _) _))

/-- What the rounds of 'others' have turned so far. -/
def turned (f : Nat → Bool) (k : Nat) : Nat → Bool := fun i => if i < k then !f i else f i
theorem turned_zero (f : Nat → Bool) : turned f 0 = f := by funext i; simp [turned]
theorem turned_succ (f : Nat → Bool) (k : Nat) : upd (turned f k) k (!f k) = turned f (k + 1) := by
  funext i
  simp only [upd, turned]
  by_cases h : i = k
  · subst h; simp
  · by_cases h2 : i < k
    · simp [h, h2, show i < k + 1 by omega]
    · simp [h, h2, show ¬ i < k + 1 by omega]
theorem turned_all (f : Nat → Bool) : LA 256 (turned f 256) = LA 256 fun i => !f i := LA_congr _ _ _ fun i h => by simp [turned, h]

set_option maxRecDepth 10000 in
theorem others_any (f : Nat → Bool) (w : World) :
    Calls Tryz.prog 86 #[.agg (LA 256 f)] w fun e w' => e = .returned (.agg (LA 256 fun i => !f i)) ∧ Below w.heap.size w w' := by
  have ha := zv_like
  go_enter Tryz.func86, Tryz.ntmps86
  go_wp2_with fail
  go_loopw [4] (fun i w' => ∃ k : Nat, k ≤ 256 ∧ i = .int .i64 k ∧ w' = (w.alloc (.cells (LA 256 (turned f k)) 153)).alloc (.cells (LA 256 fun _ => false) 153)) (fun i _ => 256 - (intOf i).toNat)
  case atStart => exact ⟨0, by omega, rfl, by rw [turned_zero]⟩
  case round =>
    obtain ⟨k, hk, rfl, rfl⟩ := hrel
    by_cases hlt : k < 256
    · have hf : turned f k k = f k := by simp [turned]
      go_wp2_with fail
      go_roundw
      case rel => exact ⟨k + 1, by omega, by go_num, by rw [turned_succ]⟩
      case measure => simp [intOf]; omega
    · have e : k = 256 := by omega
      have He := hide e
      clear e
      go_wp2_with (first
        | (refine wpList_load_LA 153 256 256 4 rfl _ rfl ?g ?hx Tryz.underlying153 size_like (turned f k) 153 ?hg ?h; (case g => exact w.heap.size); (case hx => rfl); (case hg => with_reducible exact heap_alloc2_old _ _ _))
        | (refine wpList_store_LA 153 256 rfl _ _ rfl ?g2 ?hx2 (turned f k) ?hy2 size_like (fun _ => false) 153 ?hg2 ?h2; (case g2 => exact w.heap.size + 1); (case hx2 => rfl); (case hy2 => rfl); (case hg2 => with_reducible exact heap_alloc2_new _ _ _))
        | (refine bodyPost_ret (results_LA 256 256 4 rfl _ _ (w.heap.size + 1) _ 153 rfl (heap_setRow_same _ (heap_alloc2_new _ _ _)) Tryz.underlying153 size_like) rfl ⟨?he, ?hb⟩; (case he => rw [He.out, turned_all]); (case hb => exact below_setRow (((Below.refl _ _).alloc (Nat.le_refl _) _).alloc (by simp) _) (by omega) _)))
end Go.Proofs.YtlgghomjlhnijaaGreat.Gl

/- Walks of glob.member and glob.escaped. -/
namespace Go.Proofs.YtlgghomjlhnijaaGreat.Gl
open Go.RowKit

/-- The byte at a place; nought behind the end. -/
def byteAt (s : ByteArray) (i : Nat) : Nat := (s.data.toList.getD i 0).toNat
theorem byteAt_lt (s : ByteArray) (i : Nat) : byteAt s i < 256 := (s.data.toList.getD i 0).toNat_lt
theorem byteAt_eq (s : ByteArray) (i : Nat) (h : i < s.size) : s[i].toNat = byteAt s i := by
  unfold byteAt
  rw [List.getD_eq_getElem?_getD, List.getElem?_eq_getElem (by rw [← Lib.size_eq]; exact h)]
  rfl

def memberN (n b0 b1 b2 : Nat) : Nat :=
  if nameB b0 = true then (if n < 2 then 1 else if b1 = 45 then (if n < 3 then 0 else if nameB b2 = true then (if b2 < b0 then 0 else 3) else 0) else 1) else 0

set_option maxHeartbeats 400000 in
theorem member_any (s : ByteArray) (hs : 0 < s.size) (hz : s.size ≤ 1000) (w : World) :
    Calls Tryz.prog 95 #[.string s] w fun e w' => e = .returned (.int .i64 (memberN s.size (byteAt s 0) (byteAt s 1) (byteAt s 2))) ∧ ∃ n, w' = w.drewN n := by
  have e0 := byteAt_eq s 0 hs
  unfold memberN
  by_cases n0 : nameB (byteAt s 0) = true
  · rw [if_pos n0]
    by_cases h2 : s.size < 2
    · rw [if_pos h2]
      go_enter Tryz.func95, Tryz.ntmps95
      go_wp2_with (go_at_call 97; refine (isName_any _ _).mono ?_; rintro e w' ⟨rfl, rfl⟩)
      go_ret
      exact ⟨rfl, 0, rfl⟩
    · rw [if_neg h2]
      have e1 := byteAt_eq s 1 (by omega)
      by_cases h1 : byteAt s 1 = 45
      · rw [if_pos h1]
        have b1 : (((byteAt s 1 : Nat) : Int) != 45) = false := by simp [h1]
        have H1 := hide h1
        clear h1
        by_cases h3 : s.size < 3
        · rw [if_pos h3]
          have d3 : decide ((s.size : Int) < 3) = true := by simp; omega
          go_enter Tryz.func95, Tryz.ntmps95
          go_wp2_with (go_at_call 97; refine (isName_any _ _).mono ?_; rintro e w' ⟨rfl, rfl⟩)
          go_quiet (fail)
          go_wp2
          go_ret
          exact ⟨rfl, _, rfl⟩
        · rw [if_neg h3]
          have e2 := byteAt_eq s 2 (by omega)
          have d3 : decide ((s.size : Int) < 3) = false := by simp; omega
          by_cases n2 : nameB (byteAt s 2) = true
          · rw [if_pos n2]
            by_cases hlt : byteAt s 2 < byteAt s 0
            · rw [if_pos hlt]
              have dl : decide ((byteAt s 2 : Int) < (byteAt s 0 : Int)) = true := by simp; omega
              go_enter Tryz.func95, Tryz.ntmps95
              go_wp2_with (go_at_call 97; refine (isName_any _ _).mono ?_; rintro e w' ⟨rfl, rfl⟩)
              go_quiet ((go_at_call 97; exact Calls.quiet_of_same (isName_any _ _)))
              go_wp2
              go_ret
              exact ⟨rfl, _, rfl⟩
            · rw [if_neg hlt]
              have dl : decide ((byteAt s 2 : Int) < (byteAt s 0 : Int)) = false := by simp; omega
              go_enter Tryz.func95, Tryz.ntmps95
              go_wp2_with (go_at_call 97; refine (isName_any _ _).mono ?_; rintro e w' ⟨rfl, rfl⟩)
              go_quiet ((go_at_call 97; exact Calls.quiet_of_same (isName_any _ _)))
              go_wp2
              go_ret
              exact ⟨rfl, _, rfl⟩
          · rw [if_neg n2]
            have n2' : nameB (byteAt s 2) = false := by simpa using n2
            clear n2
            go_enter Tryz.func95, Tryz.ntmps95
            go_wp2_with (go_at_call 97; refine (isName_any _ _).mono ?_; rintro e w' ⟨rfl, rfl⟩)
            go_quiet ((go_at_call 97; exact Calls.quiet_of_same (isName_any _ _)))
            go_wp2
            go_ret
            exact ⟨rfl, _, rfl⟩
      · rw [if_neg h1]
        have b1 : (((byteAt s 1 : Nat) : Int) != 45) = true := by rw [bne_iff_ne]; omega
        go_enter Tryz.func95, Tryz.ntmps95
        go_wp2_with (go_at_call 97; refine (isName_any _ _).mono ?_; rintro e w' ⟨rfl, rfl⟩)
        go_ret
        exact ⟨rfl, 0, rfl⟩
  · rw [if_neg n0]
    have n0' : nameB (byteAt s 0) = false := by simpa using n0
    clear n0
    go_enter Tryz.func95, Tryz.ntmps95
    go_wp2_with (go_at_call 97; refine (isName_any _ _).mono ?_; rintro e w' ⟨rfl, rfl⟩)
    go_ret
    exact ⟨rfl, 0, rfl⟩
end Go.Proofs.YtlgghomjlhnijaaGreat.Gl

/- What glob.class, escaped, first and parse compute, as plain functions of bytes. -/
namespace Go.Proofs.YtlgghomjlhnijaaGreat.Gl
open Go.RowKit

/-- 'f' and all from lo to hi. -/
def addRange (f : Nat → Bool) (lo hi : Nat) : Nat → Bool := fun i => f i || (decide (lo ≤ i) && decide (i ≤ hi))
/-- .. so far as the inner loop has come. -/
def addTo (f : Nat → Bool) (lo hi k : Nat) : Nat → Bool := fun i => f i || (decide (i < k) && (decide (lo ≤ i) && decide (i ≤ hi)))
theorem addTo_zero (f : Nat → Bool) (lo hi : Nat) : addTo f lo hi 0 = f := by funext i; simp [addTo]
theorem addTo_yes (f : Nat → Bool) (lo hi k : Nat) (h1 : lo ≤ k) (h2 : k ≤ hi) : upd (addTo f lo hi k) k true = addTo f lo hi (k + 1) := by
  funext i
  simp only [upd, addTo]
  by_cases h : i = k
  · subst h; simp [h1, h2]
  · have e : decide (i < k + 1) = decide (i < k) := by rw [decide_eq_decide]; omega
    simp [h, e]
theorem addTo_no (f : Nat → Bool) (lo hi k : Nat) (h : ¬ (lo ≤ k ∧ k ≤ hi)) : addTo f lo hi k = addTo f lo hi (k + 1) := by
  funext i
  simp only [addTo]
  by_cases hi' : i = k
  · subst hi'
    have : (decide (lo ≤ i) && decide (i ≤ hi)) = false := by
      rw [Bool.and_eq_false_iff]; simp only [decide_eq_false_iff_not]; omega
    simp [this]
  · have e : decide (i < k + 1) = decide (i < k) := by rw [decide_eq_decide]; omega
    rw [e]
theorem addTo_all (f : Nat → Bool) (lo hi : Nat) (h : hi < 256) : addTo f lo hi 256 = addRange f lo hi := by
  funext i
  simp only [addTo, addRange]
  by_cases h1 : i ≤ hi
  · simp [show i < 256 by omega]
  · simp [h1]

/-- How many bytes the member at a place has: nought, if none stands there. -/
def memberAt (s : ByteArray) (at' : Nat) : Nat := memberN (s.size - at') (byteAt s at') (byteAt s (at' + 1)) (byteAt s (at' + 2))

/-- The members of a class, from a place on, till a ']' or the end. -/
def scan : Nat → ByteArray → Nat → (Nat → Bool) → Option (Nat × (Nat → Bool))
  | 0, _, _, _ => none
  | k + 1, s, a, f =>
    if a < s.size ∧ byteAt s a ≠ 93 then
      (if memberAt s a = 0 then none else scan k s (a + memberAt s a) (addRange f (byteAt s a) (byteAt s (a + memberAt s a - 1))))
    else some (a, f)

theorem memberAt_le (s : ByteArray) (a : Nat) (h : a < s.size) : a + memberAt s a ≤ s.size ∧ memberAt s a ≤ 3 := by
  unfold memberAt memberN
  repeat' split
  all_goals omega

def notB (s : ByteArray) : Bool := decide (1 < s.size) && byteAt s 1 == 33
def classBegin (s : ByteArray) : Nat := if notB s = true then 2 else 1
/-- What comes of the members: nothing, where there are none or no ']'. -/
def classFin (nb : Bool) (B size : Nat) : Option (Nat × (Nat → Bool)) → Option ((Nat → Bool) × Nat)
  | none => none
  | some (a, f) => if a = B ∨ a = size then none else some (upd (if nb = true then fun i => !f i else f) 47 false, a + 1)
/-- What a class is like, and how many bytes it has. -/
def classR (s : ByteArray) : Option ((Nat → Bool) × Nat) := classFin (notB s) (classBegin s) s.size (scan (s.size + 1) s (classBegin s) fun _ => false)

theorem byteAt_extract (s : ByteArray) (a i : Nat) (_h : a ≤ s.size) : byteAt (s.extract a s.size) i = byteAt s (a + i) := by
  unfold byteAt
  rw [Lib.extract_data]
  simp only [List.getD_eq_getElem?_getD]
  congr 2
  rw [List.take_of_length_le (by simp only [List.length_drop, Lib.size_eq]; omega), List.getElem?_drop]
theorem size_extract (s : ByteArray) (a : Nat) : (s.extract a s.size).size = s.size - a := by simp

theorem hasPrefix_one (s : ByteArray) (c : UInt8) : Lib.hasPrefix s.data.toList [c] = (decide (0 < s.size) && byteAt s 0 == c.toNat) := by
  unfold byteAt
  rw [Lib.size_eq]
  cases h : s.data.toList with
  | nil => simp [Lib.hasPrefix]
  | cons a l =>
    simp only [Lib.hasPrefix, List.isPrefixOf, List.getD_cons_zero, List.length_cons]
    rw [Bool.eq_iff_iff]
    simp only [Bool.and_true, beq_iff_eq, Nat.zero_lt_succ, decide_true, Bool.true_and, ← UInt8.toNat_inj]
    exact ⟨fun h => h.symm, fun h => h.symm⟩

theorem hasPrefix_not (s : ByteArray) (h : 1 ≤ s.size) : Lib.hasPrefix (s.extract 1 s.size).data.toList [33] = notB s := by
  rw [hasPrefix_one, byteAt_extract s 1 0 h, size_extract]
  unfold notB
  congr 1
  rw [decide_eq_decide]; omega
end Go.Proofs.YtlgghomjlhnijaaGreat.Gl

/- The composite literals of a part, as the table of types gives them. -/
namespace Go.Proofs.YtlgghomjlhnijaaGreat.Gl
open Go.RowKit
/-- A composite literal of one part. -/
theorem wpList_build_one {P : Program} {ops : Array Oper} {rest : List Oper} {o : Oper} {a : Act} {w : World} {Q : Exit → Act → World → Prop} (hg : o.guard = none) (t : TypeId) (i : Nat) (x : Operand) (ho : o.op = .build t #[(i, x)])
    (v : Value) (hx : a.eval x = v) (cells : Array Value) (hf : P.built t [(i, v)] = some cells) (h : wpList P ops Q rest (a.put o.dst (.agg cells)) w) : wpList P ops Q (o :: rest) a w :=
  wpList_buildTo hg t #[(i, x)] ho _ rfl cells (by simpa [hx] using hf) h
/-- .. of two parts. -/
theorem wpList_build_two {P : Program} {ops : Array Oper} {rest : List Oper} {o : Oper} {a : Act} {w : World} {Q : Exit → Act → World → Prop} (hg : o.guard = none) (t : TypeId) (i j : Nat) (x y : Operand) (ho : o.op = .build t #[(i, x), (j, y)])
    (v u : Value) (hx : a.eval x = v) (hy : a.eval y = u) (cells : Array Value) (hf : P.built t [(i, v), (j, u)] = some cells) (h : wpList P ops Q rest (a.put o.dst (.agg cells)) w) : wpList P ops Q (o :: rest) a w :=
  wpList_buildTo hg t #[(i, x), (j, y)] ho _ rfl cells (by simpa [hx, hy] using hf) h
theorem built_part0 : Tryz.prog.built 155 [] = some (LA 257 fun _ => false) := by rw [LA_eq]; kernel_rfl
theorem built_part1 (f : Nat → Bool) : Tryz.prog.built 155 [(0, .agg (LA 256 f))] = some (LA 257 (PF f false)) := by rw [LA_eq, LA_eq]; kernel_rfl
theorem built_part2 (f : Nat → Bool) (m : Bool) : Tryz.prog.built 155 [(0, .agg (LA 256 f)), (1, .bool m)] = some (LA 257 (PF f m)) := by rw [LA_eq, LA_eq]; kernel_rfl
theorem built_like0 : Tryz.prog.built 153 [] = some (LA 256 fun _ => false) := by rw [LA_eq]; kernel_rfl
end Go.Proofs.YtlgghomjlhnijaaGreat.Gl

/- The walk of glob.class. -/
namespace Go.Proofs.YtlgghomjlhnijaaGreat.Gl
open Go.RowKit
attribute [local go_sem] LA_set LA_get LA_size LA_at

/-- A part and a number handed back, the part out of its block. -/
theorem results_part {fn : Func} {p u : Tmp} (h : fn.results = #[.cell p 155, .tmp u]) (tmps : Array Value) (w : World) (g : Nat) (f : Nat → Bool) (v : Value) (t' : TypeId)
    (hp : tmps.getD p undef = .pointer (some ⟨g, 0, none⟩)) (hv : tmps.getD u undef = v) (hg : w.heap[g]? = some (.cells (LA 257 f) t' (0, 0))) :
    (results fn tmps).run Tryz.prog w = .ok (.tuple #[.agg (LA 257 f), v]) w := by
  rw [results_cell_tmp h, hp, hv]
  have hl := run_loadVar_row (P := Tryz.prog) w g t' 155 (LA 257 f) (0, 0) _ hg Tryz.underlying155 rfl (by rw [LA_size]; exact size_part)
  simp [asAddr, hl]

theorem prefix_bang (s : ByteArray) (hs : 1 ≤ s.size) (w : World) :
    Calls Tryz.prog 85 #[.string (s.extract 1 s.size), .string ⟨#[33]⟩] w fun e w' => e = .returned (.bool (notB s)) ∧ w' = w :=
  (strings_HasPrefix (s.extract 1 s.size) ⟨#[33]⟩ w).mono fun e w' ⟨he, hw⟩ => ⟨by rw [he]; exact ret_bool (hasPrefix_not s hs), hw⟩

theorem member_from (s : ByteArray) (a : Nat) (ha : a < s.size) (hz : s.size ≤ 1000) (w : World) :
    Calls Tryz.prog 95 #[.string (s.extract a s.size)] w fun e w' => e = .returned (.int .i64 (memberAt s a)) ∧ ∃ n, w' = w.drewN n :=
  (member_any (s.extract a s.size) (by rw [size_extract]; omega) (by rw [size_extract]; omega) w).mono fun e w' ⟨he, hw⟩ => ⟨by
    rw [he, byteAt_extract s a 0 (by omega), byteAt_extract s a 1 (by omega), byteAt_extract s a 2 (by omega), size_extract]; rfl, hw⟩

theorem wpList_forget {P : Program} {ops : Array Oper} {r : List Oper} {Q : Exit → Act → World → Prop} {a : Act} {W0 : World} (F : World → Prop) (h : F W0) (H : ∀ W, F W → wpList P ops Q r a W) : wpList P ops Q r a W0 := H _ h

/-- The world behind 'like = others(like)'. -/
def CV (w : World) (g : Nat → Bool) (V : World) : Prop := Below w.heap.size w V ∧ V.heap[w.heap.size]? = some (.cells (LA 257 fun _ => false) 155 (0, 0)) ∧ V.heap[w.heap.size + 1]? = some (.cells (LA 256 g) 153 (0, 0))

/-- What class hands back. -/
def classV (s : ByteArray) : Value := match classR s with
  | none => .tuple #[.agg (LA 257 fun _ => false), .int .i64 0]
  | some (f, n) => .tuple #[.agg (LA 257 (PF f false)), .int .i64 n]
theorem classV_none {s : ByteArray} (h : classR s = none) : classV s = .tuple #[.agg (LA 257 fun _ => false), .int .i64 0] := by unfold classV; rw [h]
theorem classV_some {s : ByteArray} {f : Nat → Bool} {n : Nat} (h : classR s = some (f, n)) : classV s = .tuple #[.agg (LA 257 (PF f false)), .int .i64 n] := by unfold classV; rw [h]

/-- The world in the midst of class: the part's block, the block of bools, some draws. -/
def CW (w : World) (f : Nat → Bool) (m : Nat) : World := ((w.alloc (.cells (LA 257 fun _ => false) 155)).alloc (.cells (LA 256 f) 153)).drewN m
theorem CW_heap0 (w : World) (f : Nat → Bool) (m : Nat) : (CW w f m).heap[w.heap.size]? = some (.cells (LA 257 fun _ => false) 155 (0, 0)) := heap_alloc2_old _ _ _
theorem CW_heap1 (w : World) (f : Nat → Bool) (m : Nat) : (CW w f m).heap[w.heap.size + 1]? = some (.cells (LA 256 f) 153 (0, 0)) := heap_alloc2_new _ _ _
theorem CW_row (w : World) (f g : Nat → Bool) (m : Nat) : (CW w f m).setRow (w.heap.size + 1) (LA 256 g) = CW w g m := by
  have h := World.setRow_alloc_new (w.alloc (.cells (LA 257 fun _ => false) 155)) (LA 256 f) (LA 256 g) 153
  have e : (w.alloc (.cells (LA 257 fun _ => false) 155)).heap.size = w.heap.size + 1 := by simp
  rw [e] at h
  have e2 : (CW w f m).setRow (w.heap.size + 1) (LA 256 g) = (((w.alloc (.cells (LA 257 fun _ => false) 155)).alloc (.cells (LA 256 f) 153)).setRow (w.heap.size + 1) (LA 256 g)).drewN m := rfl
  rw [e2, h]
  rfl
theorem CW_cell (w : World) (f : Nat → Bool) (m i : Nat) (h : i < 256) : (CW w f m).cell? ⟨w.heap.size + 1, i, none⟩ = some (.bool (f i)) := by
  rw [cell_of_row _ _ i _ _ _ (CW_heap1 w f m), LA_get 256 f i h]
theorem CW_frozen (w : World) (f : Nat → Bool) (m i : Nat) : (CW w f m).frozen? ⟨w.heap.size + 1, i, none⟩ = false := frozen_of_row _ _ i _ _ (CW_heap1 w f m)
theorem CW_set (w : World) (f : Nat → Bool) (m i : Nat) (b : Bool) : (CW w f m).setCell ⟨w.heap.size + 1, i, none⟩ (.bool b) = CW w (upd f i b) m := by
  rw [setCell_eq_setRow _ _ i _ _ _ _ (CW_heap1 w f m), LA_set]
  exact CW_row w f (upd f i b) m
theorem CW_drewN (w : World) (f : Nat → Bool) (m n : Nat) : (CW w f m).drewN n = CW w f (m + n) := by unfold CW; rw [World.drewN_drewN]
theorem CW_start (w : World) : CW w (fun _ => false) 0 = (w.alloc (.cells (LA 257 fun _ => false) 155)).alloc (.cells (LA 256 fun _ => false) 153) := World.drewN_zero _
theorem CW_size (w : World) (f : Nat → Bool) (m : Nat) : w.heap.size + 1 < (CW w f m).heap.size := by show _ < (World.alloc _ _).heap.size; simp
theorem CW_below (w : World) (f : Nat → Bool) (m : Nat) : Below w.heap.size w (CW w f m) := below_drewN' (((Below.refl _ _).alloc (Nat.le_refl _) _).alloc (by simp) _) m
theorem CV_of {w W1 : World} {f : Nat → Bool} {m : Nat} (h : Below (CW w f m).heap.size (CW w f m) W1) : CV w (fun i => !f i) (W1.setRow (w.heap.size + 1) (LA 256 fun i => !f i)) := by
  have hz := CW_size w f m
  refine ⟨below_setRow ((CW_below w f m).trans (h.mono (by omega))) (by omega) _, ?_, ?_⟩
  · rw [setRow_other _ _ _ _ (by omega), h.block _ (by omega)]; exact CW_heap0 w f m
  · exact heap_setRow_same _ ((h.block _ hz).trans (CW_heap1 w f m))
attribute [local go_sem] CW_cell CW_frozen CW_set CW_drewN

set_option maxRecDepth 10000 in
set_option maxHeartbeats 1000000 in
theorem class_no (s : ByteArray) (hs : 1 ≤ s.size) (hz : s.size ≤ 1000) (hn : notB s = false) (w : World) :
    Calls Tryz.prog 88 #[.string s] w fun e w' => e = .returned (classV s) ∧ Below w.heap.size w w' := by
  have hB : classBegin s = 1 := by unfold classBegin; rw [hn]; rfl
  have hC : classR s = classFin false 1 s.size (scan (s.size + 1) s 1 fun _ => false) := by unfold classR; rw [hn, hB]
  have HC := hide hC
  clear hC hB
  have zl := zv_like
  have zp := zv_part
  have bp0 := build_part0
  have hBs : 1 ≤ s.size := by omega
  go_enter Tryz.func88, Tryz.ntmps88
  go_wp2_with (go_at_call 85; refine (prefix_bang s hs _).mono ?_; rintro e w' ⟨rfl, rfl⟩)
  rw [← CW_start]
  go_loopw [4] (fun a w' => ∃ (k : Nat) (f : Nat → Bool) (m fuel : Nat), 1 ≤ k ∧ k ≤ s.size ∧ a = .int .i64 k ∧ w' = CW w f m ∧ s.size - k < fuel ∧ scan fuel s k f = scan (s.size + 1) s 1 (fun _ => false)) (fun a _ => s.size - (intOf a).toNat)
  case atStart => exact ⟨1, _, 0, s.size + 1, by omega, by omega, rfl, rfl, by omega, rfl⟩
  case round =>
    obtain ⟨k, f, m, fuel, hk1, hk2, rfl, rfl, hfuel, hsc⟩ := hrel
    have Hsc := hide hsc
    clear hsc
    obtain ⟨fu, rfl⟩ : ∃ fu, fuel = fu + 1 := ⟨fuel - 1, by omega⟩
    by_cases hgo : k < s.size ∧ byteAt s k ≠ 93
    · obtain ⟨hlt, hne⟩ := hgo
      have ek := byteAt_eq s k hlt
      have bk : (((byteAt s k : Nat) : Int) != 93) = true := by rw [bne_iff_ne]; omega
      have dk : decide ((k : Int) < (s.size : Int)) = true := by simp; omega
      have hml := memberAt_le s k hlt
      by_cases hm0 : memberAt s k = 0
      · have hR : classR s = none := by rw [HC.out, ← Hsc.out, scan, if_pos ⟨hlt, hne⟩, if_pos hm0]; rfl
        have HV := hide (classV_none hR)
        have bm : (((memberAt s k : Nat) : Int) == 0) = true := by rw [beq_iff_eq]; omega
        clear hR HC Hsc hm0
        go_wp2_with (first | (go_at_call 95; refine (member_from s k hlt hz _).mono ?_; rintro e w' ⟨rfl, nd, rfl⟩) | (refine wpList_store_LA 155 257 rfl _ _ rfl (w.heap.size) ?_ (fun _ => false) ?_ size_part (fun _ => false) 155 ?_ ?_; (· rfl); (· rfl); (· with_reducible exact CW_heap0 _ _ _)) | (refine bodyPost_ret (results_part rfl _ _ w.heap.size (fun _ => false) (.int .i64 0) 155 rfl rfl (heap_setRow_same _ (CW_heap0 _ _ _))) rfl ⟨?_, ?_⟩; (· rw [HV.out]); (· exact below_setRow (CW_below _ _ _) (Nat.le_refl _) _)))
      · have hm1 : 1 ≤ memberAt s k := by omega
        have bm : (((memberAt s k : Nat) : Int) == 0) = false := by rw [beq_eq_false_iff_ne]; omega
        have hsc' : scan fu s (k + memberAt s k) (addRange f (byteAt s k) (byteAt s (k + memberAt s k - 1))) = scan (s.size + 1) s 1 (fun _ => false) := by rw [← Hsc.out, scan, if_pos ⟨hlt, hne⟩, if_neg hm0]
        have Hsc' := hide hsc'
        clear hsc' Hsc hm0
        have hi256 := byteAt_lt s (k + memberAt s k - 1)
        have ehi := byteAt_eq s (k + memberAt s k - 1) (by omega)
        have lo256 := byteAt_lt s k
        go_wp2_with (first | (go_at_call 95; refine (member_from s k hlt hz _).mono ?_; rintro e w' ⟨rfl, nd, rfl⟩))
        go_loopw [35] (fun c w' => ∃ j : Nat, j ≤ 256 ∧ c = .int .i64 j ∧ w' = CW w (addTo f (byteAt s k) (byteAt s (k + memberAt s k - 1)) j) (m + nd)) (fun c _ => 256 - (intOf c).toNat)
        case atStart => exact ⟨0, by omega, rfl, by rw [addTo_zero]⟩
        case round =>
          obtain ⟨j, hj, rfl, rfl⟩ := hrel
          by_cases hlj : j < 256
          · by_cases h1 : byteAt s k ≤ j
            · by_cases h2 : j ≤ byteAt s (k + memberAt s k - 1)
              · go_wp2_with fail
                go_roundw
                case rel => exact ⟨j + 1, by omega, by go_num, by rw [addTo_yes _ _ _ _ h1 h2]⟩
                case measure => simp [intOf]; omega
              · go_wp2_with fail
                go_roundw
                case rel => exact ⟨j + 1, by omega, by go_num, by rw [addTo_no _ _ _ _ (fun h => h2 h.2)]⟩
                case measure => simp [intOf]; omega
            · go_wp2_with fail
              go_roundw
              case rel => exact ⟨j + 1, by omega, by go_num, by rw [addTo_no _ _ _ _ (fun h => h1 h.1)]⟩
              case measure => simp [intOf]; omega
          · have ej : j = 256 := by omega
            have Ej := hide ej
            clear ej
            go_wp2_with fail
            go_roundw
            case rel => exact ⟨k + memberAt s k, addRange f (byteAt s k) (byteAt s (k + memberAt s k - 1)), m + nd, fu, by omega, by omega, by go_num, by rw [Ej.out, addTo_all _ _ _ hi256], by omega, Hsc'.out⟩
            case measure => simp [intOf]; omega
    · have hsn : scan (fu + 1) s k f = some (k, f) := by rw [scan, if_neg hgo]
      have hR0 : classR s = classFin false 1 s.size (some (k, f)) := by rw [HC.out, ← Hsc.out, hsn]
      clear HC Hsc hsn
      by_cases hend : k = s.size
      · have hR : classR s = none := by rw [hR0]; simp [classFin, hend]
        have HV := hide (classV_none hR)
        have dk : decide ((k : Int) < (s.size : Int)) = false := by simp; omega
        have be : ((k : Int) == (s.size : Int)) = true := by rw [beq_iff_eq]; omega
        clear hR hR0 hend hgo
        by_cases hb : k = 1
        · have bb : ((k : Int) == 1) = true := by rw [beq_iff_eq]; omega
          clear hb
          go_wp2_with (first | (refine wpList_store_LA 155 257 rfl _ _ rfl (w.heap.size) ?_ (fun _ => false) ?_ size_part (fun _ => false) 155 ?_ ?_; (· rfl); (· rfl); (· with_reducible exact CW_heap0 _ _ _)) | (refine bodyPost_ret (results_part rfl _ _ w.heap.size (fun _ => false) (.int .i64 0) 155 rfl rfl (heap_setRow_same _ (CW_heap0 _ _ _))) rfl ⟨?_, ?_⟩; (· rw [HV.out]); (· exact below_setRow (CW_below _ _ _) (Nat.le_refl _) _)))
        · have bb : ((k : Int) == 1) = false := by rw [beq_eq_false_iff_ne]; omega
          clear hb
          go_wp2_with (first | (refine wpList_store_LA 155 257 rfl _ _ rfl (w.heap.size) ?_ (fun _ => false) ?_ size_part (fun _ => false) 155 ?_ ?_; (· rfl); (· rfl); (· with_reducible exact CW_heap0 _ _ _)) | (refine bodyPost_ret (results_part rfl _ _ w.heap.size (fun _ => false) (.int .i64 0) 155 rfl rfl (heap_setRow_same _ (CW_heap0 _ _ _))) rfl ⟨?_, ?_⟩; (· rw [HV.out]); (· exact below_setRow (CW_below _ _ _) (Nat.le_refl _) _)))
      · have hlt : k < s.size := by omega
        have h93 : byteAt s k = 93 := Decidable.byContradiction fun h => hgo ⟨hlt, h⟩
        have ek := byteAt_eq s k hlt
        have bk : (((byteAt s k : Nat) : Int) != 93) = false := by rw [bne_eq_false_iff_eq]; omega
        have dk : decide ((k : Int) < (s.size : Int)) = true := by simp; omega
        have be : ((k : Int) == (s.size : Int)) = false := by rw [beq_eq_false_iff_ne]; omega
        clear hgo h93
        by_cases hb : k = 1
        · have hR : classR s = none := by rw [hR0]; simp [classFin, hb]
          have HV := hide (classV_none hR)
          have bb : ((k : Int) == 1) = true := by rw [beq_iff_eq]; omega
          clear hR hR0 hb hend
          go_wp2_with (first | (refine wpList_store_LA 155 257 rfl _ _ rfl (w.heap.size) ?_ (fun _ => false) ?_ size_part (fun _ => false) 155 ?_ ?_; (· rfl); (· rfl); (· with_reducible exact CW_heap0 _ _ _)) | (refine bodyPost_ret (results_part rfl _ _ w.heap.size (fun _ => false) (.int .i64 0) 155 rfl rfl (heap_setRow_same _ (CW_heap0 _ _ _))) rfl ⟨?_, ?_⟩; (· rw [HV.out]); (· exact below_setRow (CW_below _ _ _) (Nat.le_refl _) _)))
        · have hR : classR s = some (upd f 47 false, k + 1) := by rw [hR0]; simp [classFin, hb, hend]
          have HV := hide (classV_some hR)
          have bb : ((k : Int) == 1) = false := by rw [beq_eq_false_iff_ne]; omega
          clear hR hR0 hb hend
          go_wp2_with (first | (refine wpList_build_one rfl 155 _ _ rfl (.agg (LA 256 (upd f 47 false))) ?_ _ (built_part1 _) ?_; (· rfl)) | (refine wpList_load_LA 153 256 256 4 rfl _ rfl (w.heap.size + 1) ?_ Tryz.underlying153 size_like (upd f 47 false) 153 ?_ ?_; (· rfl); (· with_reducible exact CW_heap1 _ _ _)) | (refine wpList_store_LA 155 257 rfl _ _ rfl (w.heap.size) ?_ (PF (upd f 47 false) false) ?_ size_part (fun _ => false) 155 ?_ ?_; (· rfl); (· rfl); (· with_reducible exact CW_heap0 _ _ _)) | (refine bodyPost_ret (results_part rfl _ _ w.heap.size (PF (upd f 47 false) false) (.int .i64 ((k : Int) + 1)) 155 rfl rfl (heap_setRow_same _ (CW_heap0 _ _ _))) rfl ⟨?_, ?_⟩; (· rw [HV.out]; rfl); (· exact below_setRow (CW_below _ _ _) (Nat.le_refl _) _)))

set_option maxRecDepth 10000 in
set_option maxHeartbeats 1000000 in
theorem class_yes (s : ByteArray) (hs : 1 ≤ s.size) (hz : s.size ≤ 1000) (hn : notB s = true) (w : World) :
    Calls Tryz.prog 88 #[.string s] w fun e w' => e = .returned (classV s) ∧ Below w.heap.size w w' := by
  have hB : classBegin s = 2 := by unfold classBegin; rw [hn]; rfl
  have hC : classR s = classFin true 2 s.size (scan (s.size + 1) s 2 fun _ => false) := by unfold classR; rw [hn, hB]
  have HC := hide hC
  clear hC hB
  have zl := zv_like
  have zp := zv_part
  have bp0 := build_part0
  have hBs : 2 ≤ s.size := by simp [notB] at hn; omega
  go_enter Tryz.func88, Tryz.ntmps88
  go_wp2_with (go_at_call 85; refine (prefix_bang s hs _).mono ?_; rintro e w' ⟨rfl, rfl⟩)
  rw [← CW_start]
  go_loopw [4] (fun a w' => ∃ (k : Nat) (f : Nat → Bool) (m fuel : Nat), 2 ≤ k ∧ k ≤ s.size ∧ a = .int .i64 k ∧ w' = CW w f m ∧ s.size - k < fuel ∧ scan fuel s k f = scan (s.size + 1) s 2 (fun _ => false)) (fun a _ => s.size - (intOf a).toNat)
  case atStart => exact ⟨2, _, 0, s.size + 1, by omega, by omega, rfl, rfl, by omega, rfl⟩
  case round =>
    obtain ⟨k, f, m, fuel, hk1, hk2, rfl, rfl, hfuel, hsc⟩ := hrel
    have Hsc := hide hsc
    clear hsc
    obtain ⟨fu, rfl⟩ : ∃ fu, fuel = fu + 1 := ⟨fuel - 1, by omega⟩
    by_cases hgo : k < s.size ∧ byteAt s k ≠ 93
    · obtain ⟨hlt, hne⟩ := hgo
      have ek := byteAt_eq s k hlt
      have bk : (((byteAt s k : Nat) : Int) != 93) = true := by rw [bne_iff_ne]; omega
      have dk : decide ((k : Int) < (s.size : Int)) = true := by simp; omega
      have hml := memberAt_le s k hlt
      by_cases hm0 : memberAt s k = 0
      · have hR : classR s = none := by rw [HC.out, ← Hsc.out, scan, if_pos ⟨hlt, hne⟩, if_pos hm0]; rfl
        have HV := hide (classV_none hR)
        have bm : (((memberAt s k : Nat) : Int) == 0) = true := by rw [beq_iff_eq]; omega
        clear hR HC Hsc hm0
        go_wp2_with (first | (go_at_call 95; refine (member_from s k hlt hz _).mono ?_; rintro e w' ⟨rfl, nd, rfl⟩) | (refine wpList_store_LA 155 257 rfl _ _ rfl (w.heap.size) ?_ (fun _ => false) ?_ size_part (fun _ => false) 155 ?_ ?_; (· rfl); (· rfl); (· with_reducible exact CW_heap0 _ _ _)) | (refine bodyPost_ret (results_part rfl _ _ w.heap.size (fun _ => false) (.int .i64 0) 155 rfl rfl (heap_setRow_same _ (CW_heap0 _ _ _))) rfl ⟨?_, ?_⟩; (· rw [HV.out]); (· exact below_setRow (CW_below _ _ _) (Nat.le_refl _) _)))
      · have hm1 : 1 ≤ memberAt s k := by omega
        have bm : (((memberAt s k : Nat) : Int) == 0) = false := by rw [beq_eq_false_iff_ne]; omega
        have hsc' : scan fu s (k + memberAt s k) (addRange f (byteAt s k) (byteAt s (k + memberAt s k - 1))) = scan (s.size + 1) s 2 (fun _ => false) := by rw [← Hsc.out, scan, if_pos ⟨hlt, hne⟩, if_neg hm0]
        have Hsc' := hide hsc'
        clear hsc' Hsc hm0
        have hi256 := byteAt_lt s (k + memberAt s k - 1)
        have ehi := byteAt_eq s (k + memberAt s k - 1) (by omega)
        have lo256 := byteAt_lt s k
        go_wp2_with (first | (go_at_call 95; refine (member_from s k hlt hz _).mono ?_; rintro e w' ⟨rfl, nd, rfl⟩))
        go_loopw [35] (fun c w' => ∃ j : Nat, j ≤ 256 ∧ c = .int .i64 j ∧ w' = CW w (addTo f (byteAt s k) (byteAt s (k + memberAt s k - 1)) j) (m + nd)) (fun c _ => 256 - (intOf c).toNat)
        case atStart => exact ⟨0, by omega, rfl, by rw [addTo_zero]⟩
        case round =>
          obtain ⟨j, hj, rfl, rfl⟩ := hrel
          by_cases hlj : j < 256
          · by_cases h1 : byteAt s k ≤ j
            · by_cases h2 : j ≤ byteAt s (k + memberAt s k - 1)
              · go_wp2_with fail
                go_roundw
                case rel => exact ⟨j + 1, by omega, by go_num, by rw [addTo_yes _ _ _ _ h1 h2]⟩
                case measure => simp [intOf]; omega
              · go_wp2_with fail
                go_roundw
                case rel => exact ⟨j + 1, by omega, by go_num, by rw [addTo_no _ _ _ _ (fun h => h2 h.2)]⟩
                case measure => simp [intOf]; omega
            · go_wp2_with fail
              go_roundw
              case rel => exact ⟨j + 1, by omega, by go_num, by rw [addTo_no _ _ _ _ (fun h => h1 h.1)]⟩
              case measure => simp [intOf]; omega
          · have ej : j = 256 := by omega
            have Ej := hide ej
            clear ej
            go_wp2_with fail
            go_roundw
            case rel => exact ⟨k + memberAt s k, addRange f (byteAt s k) (byteAt s (k + memberAt s k - 1)), m + nd, fu, by omega, by omega, by go_num, by rw [Ej.out, addTo_all _ _ _ hi256], by omega, Hsc'.out⟩
            case measure => simp [intOf]; omega
    · have hsn : scan (fu + 1) s k f = some (k, f) := by rw [scan, if_neg hgo]
      have hR0 : classR s = classFin true 2 s.size (some (k, f)) := by rw [HC.out, ← Hsc.out, hsn]
      clear HC Hsc hsn
      by_cases hend : k = s.size
      · have hR : classR s = none := by rw [hR0]; simp [classFin, hend]
        have HV := hide (classV_none hR)
        have dk : decide ((k : Int) < (s.size : Int)) = false := by simp; omega
        have be : ((k : Int) == (s.size : Int)) = true := by rw [beq_iff_eq]; omega
        clear hR hR0 hend hgo
        by_cases hb : k = 2
        · have bb : ((k : Int) == 2) = true := by rw [beq_iff_eq]; omega
          clear hb
          go_wp2_with (first | (refine wpList_store_LA 155 257 rfl _ _ rfl (w.heap.size) ?_ (fun _ => false) ?_ size_part (fun _ => false) 155 ?_ ?_; (· rfl); (· rfl); (· with_reducible exact CW_heap0 _ _ _)) | (refine bodyPost_ret (results_part rfl _ _ w.heap.size (fun _ => false) (.int .i64 0) 155 rfl rfl (heap_setRow_same _ (CW_heap0 _ _ _))) rfl ⟨?_, ?_⟩; (· rw [HV.out]); (· exact below_setRow (CW_below _ _ _) (Nat.le_refl _) _)))
        · have bb : ((k : Int) == 2) = false := by rw [beq_eq_false_iff_ne]; omega
          clear hb
          go_wp2_with (first | (refine wpList_store_LA 155 257 rfl _ _ rfl (w.heap.size) ?_ (fun _ => false) ?_ size_part (fun _ => false) 155 ?_ ?_; (· rfl); (· rfl); (· with_reducible exact CW_heap0 _ _ _)) | (refine bodyPost_ret (results_part rfl _ _ w.heap.size (fun _ => false) (.int .i64 0) 155 rfl rfl (heap_setRow_same _ (CW_heap0 _ _ _))) rfl ⟨?_, ?_⟩; (· rw [HV.out]); (· exact below_setRow (CW_below _ _ _) (Nat.le_refl _) _)))
      · have hlt : k < s.size := by omega
        have h93 : byteAt s k = 93 := Decidable.byContradiction fun h => hgo ⟨hlt, h⟩
        have ek := byteAt_eq s k hlt
        have bk : (((byteAt s k : Nat) : Int) != 93) = false := by rw [bne_eq_false_iff_eq]; omega
        have dk : decide ((k : Int) < (s.size : Int)) = true := by simp; omega
        have be : ((k : Int) == (s.size : Int)) = false := by rw [beq_eq_false_iff_ne]; omega
        clear hgo h93
        by_cases hb : k = 2
        · have hR : classR s = none := by rw [hR0]; simp [classFin, hb]
          have HV := hide (classV_none hR)
          have bb : ((k : Int) == 2) = true := by rw [beq_iff_eq]; omega
          clear hR hR0 hb hend
          go_wp2_with (first | (refine wpList_store_LA 155 257 rfl _ _ rfl (w.heap.size) ?_ (fun _ => false) ?_ size_part (fun _ => false) 155 ?_ ?_; (· rfl); (· rfl); (· with_reducible exact CW_heap0 _ _ _)) | (refine bodyPost_ret (results_part rfl _ _ w.heap.size (fun _ => false) (.int .i64 0) 155 rfl rfl (heap_setRow_same _ (CW_heap0 _ _ _))) rfl ⟨?_, ?_⟩; (· rw [HV.out]); (· exact below_setRow (CW_below _ _ _) (Nat.le_refl _) _)))
        · have hR : classR s = some (upd (fun i => !f i) 47 false, k + 1) := by rw [hR0]; simp [classFin, hb, hend]
          have HV := hide (classV_some hR)
          have bb : ((k : Int) == 2) = false := by rw [beq_eq_false_iff_ne]; omega
          clear hR hR0 hb hend
          go_wp2_with (first | (refine wpList_build_one rfl 155 _ _ rfl (.agg (LA 256 (upd (fun i => !f i) 47 false))) ?_ _ (built_part1 _) ?_; (· rfl)) | (refine wpList_load_LA 153 256 256 4 rfl _ rfl (w.heap.size + 1) ?_ Tryz.underlying153 size_like f 153 ?_ ?_; (· rfl); (· with_reducible exact CW_heap1 _ _ _)) | (go_at_call 86; refine (others_any f _).mono ?_; rintro e W1 ⟨rfl, hW1⟩) | (refine wpList_store_LA 153 256 rfl _ _ rfl (w.heap.size + 1) ?_ (fun i => !f i) ?_ size_like f 153 ?_ ?_; (· rfl); (· rfl); (· rw [hW1.block _ (CW_size w f m)]; exact CW_heap1 _ _ _); refine wpList_forget (CV w (fun i => !f i)) (CV_of hW1) ?_; rintro V ⟨hV1, hV2, hV3⟩; have hVc := fun i => cell_of_row V (w.heap.size + 1) i _ _ _ hV3; have hVf := fun i => frozen_of_row V (w.heap.size + 1) i _ _ hV3) | (refine wpList_load_LA 153 256 256 4 rfl _ rfl (w.heap.size + 1) ?_ Tryz.underlying153 size_like (upd (fun i => !f i) 47 false) 153 ?_ ?_; (· rfl); (· rw [heap_setCell_same V _ 47 _ _ _ hV3, LA_set])) | (refine wpList_store_LA 155 257 rfl _ _ rfl (w.heap.size) ?_ (PF (upd (fun i => !f i) 47 false) false) ?_ size_part (fun _ => false) 155 ?_ ?_; (· rfl); (· rfl); (· rw [heap_setCell_other _ _ _ _ (by simp)]; exact hV2)) | (refine bodyPost_ret (results_part rfl _ _ w.heap.size (PF (upd (fun i => !f i) 47 false) false) (.int .i64 ((k : Int) + 1)) 155 rfl rfl (heap_setRow_same _ (by rw [heap_setCell_other _ _ _ _ (by simp)]; exact hV2))) rfl ⟨?_, ?_⟩; (· rw [HV.out]; rfl); (· exact below_setRow (hV1.setCell (by simp) _) (Nat.le_refl _) _)))
end Go.Proofs.YtlgghomjlhnijaaGreat.Gl

/- The walks of glob.escaped and glob.first. -/
namespace Go.Proofs.YtlgghomjlhnijaaGreat.Gl
open Go.RowKit
attribute [local go_sem] LA_set LA_get LA_size LA_at

theorem class_any (s : ByteArray) (hs : 1 ≤ s.size) (hz : s.size ≤ 1000) (w : World) :
    Calls Tryz.prog 88 #[.string s] w fun e w' => e = .returned (classV s) ∧ Below w.heap.size w w' := by
  cases hn : notB s
  · exact class_no s hs hz hn w
  · exact class_yes s hs hz hn w

/-- A part, or none, as it is handed back: what it is like, whether it is of many, how many bytes it has. -/
def partV : Option ((Nat → Bool) × Bool × Nat) → Value
  | none => .tuple #[.agg (LA 257 fun _ => false), .int .i64 0]
  | some (f, m, n) => .tuple #[.agg (LA 257 (PF f m)), .int .i64 n]

def onlyF (b : Nat) : Nat → Bool := upd (fun _ => false) b true
def escR (s : ByteArray) : Option ((Nat → Bool) × Bool × Nat) := if 2 ≤ s.size ∧ signB (byteAt s 1) = true then some (onlyF (byteAt s 1), false, 2) else none

theorem signs_at (b : Nat) (hb : b < 256) (w : World) : Calls Tryz.prog 96 #[.string ⟨#[42, 63, 91, 93, 92]⟩, .int .u8 b] w fun e w' => (∃ n : Int, e = .returned (.int .i64 n) ∧ decide (n < 0) = !signB b) ∧ w' = w :=
  (strings_IndexByte _ _ w).mono fun _ _ ⟨he, hw⟩ => ⟨⟨_, he, signs_index b hb⟩, hw⟩

/-- The world of a function that has laid the block of its part. -/
def PW (w : World) : World := w.alloc (.cells (LA 257 fun _ => false) 155)
theorem PW_heap (w : World) : (PW w).heap[w.heap.size]? = some (.cells (LA 257 fun _ => false) 155 (0, 0)) := heap_alloc_new _ _
theorem PW_below (w : World) : Below w.heap.size w (PW w) := (Below.refl _ _).alloc (Nat.le_refl _) _
theorem PW_size (w : World) : w.heap.size < (PW w).heap.size := by show _ < (World.alloc _ _).heap.size; simp
theorem PW_later {w W : World} (h : Below (PW w).heap.size (PW w) W) : W.heap[w.heap.size]? = some (.cells (LA 257 fun _ => false) 155 (0, 0)) := (h.block _ (PW_size w)).trans (PW_heap w)
theorem PW_belowLater {w W : World} (h : Below (PW w).heap.size (PW w) W) : Below w.heap.size w W := (PW_below w).trans (h.mono (by have := PW_size w; omega))

set_option maxRecDepth 10000 in
theorem escaped_any (s : ByteArray) (hs : 1 ≤ s.size) (hz : s.size ≤ 1000) (w : World) :
    Calls Tryz.prog 89 #[.string s] w fun e w' => e = .returned (partV (escR s)) ∧ Below w.heap.size w w' := by
  have zp := zv_part
  by_cases h2 : s.size < 2
  · have hR : escR s = none := by unfold escR; rw [if_neg (by omega)]
    have HR := hide hR
    have d2 : decide ((s.size : Int) < 2) = true := by simp; omega
    have bp0 := build_part0
    clear hR
    go_enter Tryz.func89, Tryz.ntmps89
    go_wp2_with (first
      | (refine wpList_store_LA 155 257 rfl _ _ rfl w.heap.size ?_ (fun _ => false) ?_ size_part (fun _ => false) 155 ?_ ?_; (· rfl); (· rfl); (· with_reducible exact heap_alloc_new _ _))
      | (refine bodyPost_ret (results_part rfl _ _ w.heap.size (fun _ => false) (.int .i64 0) 155 rfl rfl (heap_setRow_same _ (heap_alloc_new _ _))) rfl ⟨?_, ?_⟩; (· rw [HR.out]; rfl); (· exact below_setRow (PW_below w) (Nat.le_refl _) _)))
  · have d2 : decide ((s.size : Int) < 2) = false := by simp; omega
    have e1 := byteAt_eq s 1 (by omega)
    have b1 := byteAt_lt s 1
    cases hg : signB (byteAt s 1)
    · have hR : escR s = none := by unfold escR; rw [if_neg (by rw [hg]; simp)]
      have HR := hide hR
      have bp0 := build_part0
      clear hR
      go_enter Tryz.func89, Tryz.ntmps89
      go_wp2_with (first
        | (go_at_call 96; refine (signs_at _ b1 _).mono ?_; rintro e w' ⟨⟨n, rfl, hn⟩, rfl⟩; rw [hg] at hn; simp only [Bool.not_false] at hn)
        | (refine wpList_store_LA 155 257 rfl _ _ rfl w.heap.size ?_ (fun _ => false) ?_ size_part (fun _ => false) 155 ?_ ?_; (· rfl); (· rfl); (· with_reducible exact heap_alloc_new _ _))
        | (refine bodyPost_ret (results_part rfl _ _ w.heap.size (fun _ => false) (.int .i64 0) 155 rfl rfl (heap_setRow_same _ (heap_alloc_new _ _))) rfl ⟨?_, ?_⟩; (· rw [HR.out]; rfl); (· exact below_setRow (PW_below w) (Nat.le_refl _) _)))
    · have hR : escR s = some (onlyF (byteAt s 1), false, 2) := by unfold escR; rw [if_pos ⟨by omega, hg⟩]
      have HR := hide hR
      clear hR
      go_enter Tryz.func89, Tryz.ntmps89
      go_wp2_with (first
        | (go_at_call 96; refine (signs_at _ b1 _).mono ?_; rintro e w' ⟨⟨n, rfl, hn⟩, rfl⟩; rw [hg] at hn; simp only [Bool.not_true] at hn)
        | (go_at_call 87; refine (only_any _ b1 _).mono ?_; rintro e W ⟨rfl, hW⟩)
        | (refine wpList_build_one rfl 155 _ _ rfl (.agg (LA 256 (onlyF (byteAt s 1)))) ?_ _ (built_part1 _) ?_; (· rfl))
        | (refine wpList_store_LA 155 257 rfl _ _ rfl w.heap.size ?_ (PF (onlyF (byteAt s 1)) false) ?_ size_part (fun _ => false) 155 ?_ ?_; (· rfl); (· rfl); (· exact PW_later hW))
        | (refine bodyPost_ret (results_part rfl _ _ w.heap.size (PF (onlyF (byteAt s 1)) false) (.int .i64 2) 155 rfl rfl (heap_setRow_same _ (PW_later hW))) rfl ⟨?_, ?_⟩; (· rw [HR.out]; rfl); (· exact below_setRow (PW_belowLater hW) (Nat.le_refl _) _)))
end Go.Proofs.YtlgghomjlhnijaaGreat.Gl
