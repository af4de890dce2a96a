/- How the document reads a net's text: numbers one behind the other, whatever signs between. No model in it. -/
import Derived.Test.YtkeljbekbgabpaaDoorANet
namespace Go.Proofs.YtkeljbekbgabpaaDoor
open Go.RowKit

def figN (l : List UInt8) : Nat := if 20 < l.length ∨ l.all isDig = false then 0 else digVal 0 l % 18446744073709551616
def figOk (l : List UInt8) : Bool := if 20 < l.length ∨ l.all isDig = false then false else Lib.decDigits (figN l) == l
def fig70 (l : List UInt8) : Option Nat := if figOk l = true ∧ figN l ≤ 70000 then some (figN l) else none

theorem fig70_dec (n : Nat) (h : n ≤ 70000) : fig70 (Lib.decDigits n) = some n := by
  have h5 := nDigits_le5 n (by omega)
  have hc : ¬ (20 < (Lib.decDigits n).length ∨ (Lib.decDigits n).all isDig = false) := by
    rw [Lib.decDigits_length, dec_all]
    rintro (h | h)
    · omega
    · cases h
  have e : figN (Lib.decDigits n) = n := by
    unfold figN
    rw [if_neg hc, dec_val, Nat.mod_eq_of_lt (by omega)]
  unfold fig70 figOk
  rw [e, if_neg hc, if_pos ⟨by simp, h⟩]

def scanN : List UInt8 → List UInt8 → Nat → Option (List Nat)
  | cur, [], k => (fig70 cur).bind fun x => if k ≤ 6 then some [x] else none
  | cur, c :: r, k => if isDig c = true then scanN (cur ++ [c]) r k else (fig70 cur).bind fun x => if k ≤ 6 then (scanN [] r (k + 1)).map fun ns => x :: ns else none

theorem scanN_digits (k : Nat) (r : List UInt8) : ∀ (l cur : List UInt8), l.all isDig = true → scanN cur (l ++ r) k = scanN (cur ++ l) r k
  | [], cur, _ => by simp
  | c :: l, cur, h => by
    simp only [List.all_cons, Bool.and_eq_true] at h
    rw [List.cons_append, scanN, if_pos h.1, scanN_digits k r l (cur ++ [c]) h.2, List.append_assoc, List.singleton_append]

theorem scanN_join : ∀ (cs : List UInt8) (ns : List Nat) (k : Nat), (∀ c ∈ cs, isDig c = false) → ns.length = cs.length + 1 → (∀ n ∈ ns, n ≤ 70000) → k + cs.length ≤ 6 → scanN [] (joinN cs ns) k = some ns
  | [], [n], k, _, _, h, hk => by
    have h0 : scanN [] (Lib.decDigits n ++ []) k = some [n] := by
      rw [scanN_digits k [] _ [] (dec_all n), List.nil_append, scanN, fig70_dec n (h n (List.mem_cons_self ..)), Option.bind_some, if_pos (by simpa using hk)]
    rw [List.append_nil] at h0
    exact h0
  | c :: cs, n :: ns, k, hc, hl, h, hk => by
    show scanN [] (Lib.decDigits n ++ c :: joinN cs ns) k = _
    have hk' : k + cs.length + 1 ≤ 6 := by simpa [Nat.add_assoc] using hk
    rw [scanN_digits k _ _ [] (dec_all n), List.nil_append, scanN, if_neg (by rw [hc c (List.mem_cons_self ..)]; decide), fig70_dec n (h n (List.mem_cons_self ..)), Option.bind_some, if_pos (by omega),
      scanN_join cs ns (k + 1) (fun d hd => hc d (List.mem_cons_of_mem _ hd)) (by simpa using hl) (fun m hm => h m (List.mem_cons_of_mem _ hm)) (by omega)]
    rfl
  | [], [], _, _, hl, _, _ => by simp at hl
  | [], _ :: _ :: _, _, _, hl, _, _ => by simp at hl
  | _ :: _, [], _, _, hl, _, _ => by simp at hl

/-- A text that is read as a net is scanned as its numbers. -/
theorem scan_parse {s : List UInt8} {ip b lo hi : Nat} (h : parseR s = some (ip, b, lo, hi)) : scanN [] s 0 = some (netNums ip b lo hi) := by
  obtain ⟨hip, hf, rfl⟩ := parse_some h
  obtain ⟨h1, h2, _⟩ := fault_ok hf
  refine scanN_join signsL _ 0 signs_no rfl (fun n hn => ?_) (by decide)
  simp only [netNums, List.mem_cons, List.not_mem_nil, or_false] at hn
  omega

theorem parse_none_of {s : List UInt8} (h : ∀ ip b lo hi, parseR s = some (ip, b, lo, hi) → False) : parseR s = none := by
  cases hp : parseR s with
  | none => rfl
  | some x => exact absurd hp (fun e => h _ _ _ _ e)
end Go.Proofs.YtkeljbekbgabpaaDoor
