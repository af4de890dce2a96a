/- A byte of an address. -/
import Derived.Test.YtbifjokfnahiaabGreatDoorK2
import Derived.Laws.Slices
import Derived.Lib.Strings
import Derived.Laws.BitsAllLaws
import Derived.Laws.ResultCell
import Derived.Laws.CopyOwn
import Derived.Test.YtbifjokfnahiaabGreatDoorK11
import Derived.Lib.QuietBelow
namespace Go.Proofs.YtbifjokfnahiaabGreatDoor
open Go.RowKit

/-- A byte of an address, the highest at 0. -/
def ipB (ip i : Nat) : Nat := ip / 2 ^ (24 - 8 * i) % 256

theorem ipByte_any (ip i : Nat) (_hip : ip < 4294967296) (hi : i ≤ 3) (w : World) : Calls Tryz.prog 89 #[.int .u32 ip, .int .i64 i] w fun e w' => e = .returned (.int .u8 (ipB ip i)) ∧ w' = w := by
  go_enter Tryz.func89, Tryz.ntmps89
  go_wp2
  go_ret
  refine ⟨?_, rfl⟩
  refine ret_int ?_
  unfold ipB
  simp
theorem ipB_lt (ip i : Nat) : ipB ip i < 256 := Nat.mod_lt _ (by decide)
end Go.Proofs.YtbifjokfnahiaabGreatDoor

/- A string's bytes as numbers; '|' of numbers that share no bit. -/
namespace Go.Proofs.YtbifjokfnahiaabGreatDoor
open Go.RowKit

def byteAt (s : ByteArray) (i : Nat) : Nat := (s.data.toList.getD i 0).toNat
theorem byteAt_lt (s : ByteArray) (i : Nat) : byteAt s i < 256 := (s.data.toList.getD i 0).toNat_lt
theorem byteAt_eq (s : ByteArray) (i : Nat) (h : i < s.size) : s[i].toNat = byteAt s i := by
  unfold byteAt
  rw [List.getD_eq_getElem?_getD, List.getElem?_eq_getElem (by rw [← Lib.size_eq]; exact h)]
  rfl
theorem or8 (a b : Nat) (hb : b < 256) : a * 256 ||| b = a * 256 + b := by
  have := Nat.shiftLeft_add_eq_or_of_lt (i := 8) (b := b) (by omega) a
  rw [Nat.shiftLeft_eq] at this
  exact this.symm
theorem u32_or8 (a b : Nat) (ha : a < 16777216) (hb : b < 256) : bits .or .u32 ((a : Int) * 256) (b : Int) = ((a * 256 + b : Nat) : Int) := by
  rw [show (a : Int) * 256 = ((a * 256 : Nat) : Int) by simp, u32_or_nat _ _ (by omega) (by omega), or8 a b hb]
theorem i64_or_nat (a b : Nat) (ha : a < 9223372036854775808) (hb : b < 9223372036854775808) : bits .or .i64 (a : Int) (b : Int) = ((a ||| b : Nat) : Int) := by
  have hx : a ||| b < 2 ^ 63 := Nat.or_lt_two_pow (by omega) (by omega)
  have h1 : (BitVec.ofInt 64 (a : Int)).toNat = a := by rw [BitVec.ofInt_natCast, BitVec.toNat_ofNat]; exact Nat.mod_eq_of_lt (by omega)
  have h2 : (BitVec.ofInt 64 (b : Int)).toNat = b := by rw [BitVec.ofInt_natCast, BitVec.toNat_ofNat]; exact Nat.mod_eq_of_lt (by omega)
  show IntKind.i64.wrap ((BitVec.ofInt 64 (a : Int) ||| BitVec.ofInt 64 (b : Int)).toNat : Int) = _
  rw [BitVec.toNat_or, h1, h2]
  rw [IntKind.wrap_i64]
  omega
theorem i64_or8 (a b : Nat) (ha : a < 256) (hb : b < 256) : bits .or .i64 ((a : Int) * 256) (b : Int) = ((a * 256 + b : Nat) : Int) := by
  rw [show (a : Int) * 256 = ((a * 256 : Nat) : Int) by simp, i64_or_nat _ _ (by omega) (by omega), or8 a b hb]
end Go.Proofs.YtbifjokfnahiaabGreatDoor

/- addr.number: digits read. -/
namespace Go.Proofs.YtbifjokfnahiaabGreatDoor
open Go.RowKit

def numV : Option Nat → Value
  | none => .tuple #[.int .i64 0, .bool false]
  | some n => .tuple #[.int .i64 n, .bool true]

theorem byte_list (s : ByteArray) (k : Nat) (h : k < s.size) : s.data.toList.take (k + 1) = s.data.toList.take k ++ [UInt8.ofNat (byteAt s k)] := by
  have hk : k < s.data.toList.length := by rw [← Lib.size_eq]; exact h
  rw [List.take_add_one, List.getElem?_eq_getElem hk]
  unfold byteAt
  rw [List.getD_eq_getElem?_getD, List.getElem?_eq_getElem hk]
  simp
theorem isDig_byte (n : Nat) (h : n < 256) : isDig (UInt8.ofNat n) = (decide (48 ≤ n) && decide (n ≤ 57)) := by
  unfold isDig
  rw [UInt8.toNat_ofNat', Nat.mod_eq_of_lt h]
theorem all_take (l : List UInt8) (k : Nat) (h : (l.take k).all isDig = false) : l.all isDig = false := by
  cases hb : l.all isDig with
  | false => rfl
  | true =>
    rw [List.all_eq_true] at hb
    have : (l.take k).all isDig = true := List.all_eq_true.2 fun x hx => hb x (List.mem_of_mem_take hx)
    rw [h] at this
    cases this

theorem number_any (s : ByteArray) (hs : s.size < 4294967296) (w : World) : Calls Tryz.prog 105 #[.string s] w fun e w' => e = .returned (numV (numR s.data.toList)) ∧ ∃ n, w' = w.drewN n := by
  by_cases h0 : s.size = 0
  · have HV := hide (show numR s.data.toList = none by unfold numR; rw [if_pos (Or.inl (by rw [← Lib.size_eq]; exact h0))])
    go_enter Tryz.func105, Tryz.ntmps105
    go_wp2
    go_ret2
    exact ⟨by rw [HV.out]; rfl, 0, rfl⟩
  · have b0 : ((s.size : Int) == 0) = false := by rw [beq_eq_false_iff_ne]; omega
    by_cases h5 : 5 < s.size
    · have HV := hide (show numR s.data.toList = none by unfold numR; rw [if_pos (Or.inr (Or.inl (by rw [← Lib.size_eq]; exact h5)))])
      go_enter Tryz.func105, Tryz.ntmps105
      go_wp2
      go_ret2
      exact ⟨by rw [HV.out]; rfl, 0, rfl⟩
    · have e0 := byteAt_eq s 0 (by omega)
      have hd : s.data.toList.head? = some (UInt8.ofNat (byteAt s 0)) := by
        have := byte_list s 0 (by omega)
        cases hl : s.data.toList with
        | nil => rw [hl] at this; simp at this
        | cons x r => rw [hl] at this; simpa using this
      by_cases h1 : 1 < s.size ∧ byteAt s 0 = 48
      · have HV := hide (show numR s.data.toList = none by unfold numR; rw [if_pos (Or.inr (Or.inr (Or.inl ⟨by rw [← Lib.size_eq]; exact h1.1, by rw [hd, h1.2]; rfl⟩)))])
        have c1 : ((byteAt s 0 : Int) == 48) = true := by rw [beq_iff_eq]; omega
        have c2 : (1 : Int) < s.size := by omega
        clear hd
        go_enter Tryz.func105, Tryz.ntmps105
        go_wp2
        go_ret2
        exact ⟨by rw [HV.out]; rfl, 0, rfl⟩
      · have HR := hide (show numR s.data.toList = if s.data.toList.all isDig = false then none else some (digVal 0 s.data.toList) by
          unfold numR
          rw [hd]
          by_cases ha : s.data.toList.all isDig = false
          · rw [if_pos (Or.inr (Or.inr (Or.inr ha))), if_pos ha]
          · rw [if_neg ha, if_neg]
            rw [← Lib.size_eq]
            rintro (h | h | ⟨h, h'⟩ | h)
            · omega
            · omega
            · refine h1 ⟨h, ?_⟩
              have := congrArg UInt8.toNat (Option.some.inj h')
              rw [UInt8.toNat_ofNat', Nat.mod_eq_of_lt (byteAt_lt s 0)] at this
              exact this
            · exact ha h)
        have hk : (1 : Int) < s.size → ((byteAt s 0 : Int) == 48) = false := fun h => by rw [beq_eq_false_iff_ne]; intro h'; exact h1 ⟨by omega, by omega⟩
        clear hd h1
        go_enter Tryz.func105, Tryz.ntmps105
        go_wp2
        all_goals
          go_loopw [26, 4] (fun i x w' => ∃ k m : Nat, k ≤ s.size ∧ i = .int .i64 k ∧ (∃ n : Nat, n < 100000 ∧ x = .int .i64 n ∧ Hid (n = digVal 0 (s.data.toList.take k))) ∧ w' = w.drewN m ∧ Hid ((s.data.toList.take k).all isDig = true)) (fun i _ _ => s.size - (intOf i).toNat)
          case atStart => exact ⟨0, 0, by omega, rfl, ⟨0, by omega, rfl, hide rfl⟩, rfl, hide rfl⟩
          case round =>
            obtain ⟨k, m, hk, rfl, ⟨n, hn, rfl, HN⟩, rfl, HA⟩ := hrel
            by_cases hlt : k < s.size
            · have ek := byteAt_eq s k hlt
              have lk := byteAt_lt s k
              have HB := hide (byte_list s k hlt)
              by_cases hdg : 48 ≤ byteAt s k ∧ byteAt s k ≤ 57
              · have HA2 := hide (show (s.data.toList.take (k + 1)).all isDig = true by rw [HB.out, List.all_append, HA.out]; simp [isDig_byte _ lk, hdg.1, hdg.2])
                have HN2 := hide (show n * 10 + (byteAt s k - 48) = digVal 0 (s.data.toList.take (k + 1)) by rw [HB.out, digVal_snoc, ← HN.out, UInt8.toNat_ofNat', Nat.mod_eq_of_lt lk])
                have hn2 : n * 10 + (byteAt s k - 48) < 100000 := by
                  have h1 := digVal_lt _ 0 HA2.out
                  rw [← HN2.out, List.length_take, ← Lib.size_eq] at h1
                  have h2 : 10 ^ min (k + 1) s.size ≤ 10 ^ 5 := Nat.pow_le_pow_right (by decide) (by omega)
                  omega
                go_wp2
                go_round
                case rel => exact ⟨k + 1, m, by omega, by go_num, ⟨n * 10 + (byteAt s k - 48), hn2, by go_num, HN2⟩, rfl, HA2⟩
                case measure => simp [intOf]; omega
              · have HV := hide (show numR s.data.toList = none by
                  rw [HR.out, if_pos]
                  refine all_take _ (k + 1) ?_
                  rw [HB.out, List.all_append, HA.out]
                  simp only [List.all_cons, List.all_nil, isDig_byte _ lk, Bool.and_true, Bool.true_and]
                  rw [Bool.and_eq_false_iff]
                  simp
                  omega)
                go_wp2
                all_goals
                  go_ret2
                  exact ⟨by rw [HV.out]; rfl, m, rfl⟩
            · obtain rfl : k = s.size := by omega
              have HV := hide (show numR s.data.toList = some n by
                rw [List.take_of_length_le (by rw [← Lib.size_eq]; omega)] at HN HA
                rw [HR.out, HA.out, if_neg (by decide), ← HN.out])
              go_wp2
              go_ret2
              exact ⟨by rw [HV.out]; rfl, m, rfl⟩
end Go.Proofs.YtbifjokfnahiaabGreatDoor

/- addr.split: the numbers of a net's text. -/
namespace Go.Proofs.YtbifjokfnahiaabGreatDoor
open Go.RowKit

/-- Seven numbers in a row of cells, noughts behind those that are there. -/
def padN (ns : List Nat) : Array Value := #[.int .i64 (ns.getD 0 0), .int .i64 (ns.getD 1 0), .int .i64 (ns.getD 2 0), .int .i64 (ns.getD 3 0), .int .i64 (ns.getD 4 0), .int .i64 (ns.getD 5 0), .int .i64 (ns.getD 6 0)]

def signsB : ByteArray := ⟨#[46, 46, 46, 47, 58, 45]⟩

theorem signs_extract (k : Nat) (hk : k < 6) : (⟨#[46, 46, 46, 47, 58, 45]⟩ : ByteArray).extract k (k + 1) = ⟨#[signsL.getD k 0]⟩ := by
  match k, hk with
  | 0, _ => rfl
  | 1, _ => rfl
  | 2, _ => rfl
  | 3, _ => rfl
  | 4, _ => rfl
  | 5, _ => rfl
theorem signs_drop (k : Nat) (hk : k < 6) : signsL.drop k = signsL.getD k 0 :: signsL.drop (k + 1) := by
  match k, hk with
  | 0, _ => rfl
  | 1, _ => rfl
  | 2, _ => rfl
  | 3, _ => rfl
  | 4, _ => rfl
  | 5, _ => rfl

theorem cutS_hit (s : ByteArray) (k : Nat) (hk : k < 6) (i : Nat) (hi : Lib.indexByte s.data.toList (signsL.getD k 0) = i) (hs : s.size < 4294967296) (w : World) :
    Calls Tryz.prog 104 #[.string s, .string ((⟨#[46, 46, 46, 47, 58, 45]⟩ : ByteArray).extract k (k + 1))] w fun e w' => e = .returned (.tuple #[.string (s.extract 0 i), .string (s.extract (i + 1) s.size), .bool true]) ∧ ∃ n, w' = w.drewN n := by
  rw [signs_extract k hk]
  exact cut_hit s _ i hi hs w
theorem cutS_miss (s : ByteArray) (k : Nat) (hk : k < 6) (hi : Lib.indexByte s.data.toList (signsL.getD k 0) < 0) (w : World) :
    Calls Tryz.prog 104 #[.string s, .string ((⟨#[46, 46, 46, 47, 58, 45]⟩ : ByteArray).extract k (k + 1))] w fun e w' => e = .returned (.tuple #[.string s, .string ⟨#[]⟩, .bool false]) ∧ ∃ n, w' = w.drewN n := by
  rw [signs_extract k hk]
  exact cut_miss s _ hi w
theorem number_some (s : ByteArray) (n : Nat) (h : numR s.data.toList = some n) (hs : s.size < 4294967296) (w : World) : Calls Tryz.prog 105 #[.string s] w fun e w' => e = .returned (.tuple #[.int .i64 n, .bool true]) ∧ ∃ n, w' = w.drewN n :=
  (number_any s hs w).mono fun e w' ⟨he, hw⟩ => ⟨by rw [he, h]; rfl, hw⟩
theorem number_none (s : ByteArray) (h : numR s.data.toList = none) (hs : s.size < 4294967296) (w : World) : Calls Tryz.prog 105 #[.string s] w fun e w' => e = .returned (.tuple #[.int .i64 0, .bool false]) ∧ ∃ n, w' = w.drewN n :=
  (number_any s hs w).mono fun e w' ⟨he, hw⟩ => ⟨by rw [he, h]; rfl, hw⟩
theorem number_opt (s : ByteArray) (hs : s.size < 4294967296) (w : World) : Calls Tryz.prog 105 #[.string s] w fun e w' => (∃ (a : Int) (b : Bool), e = .returned (.tuple #[.int .i64 a, .bool b])) ∧ ∃ n, w' = w.drewN n :=
  (number_any s hs w).mono fun e w' ⟨he, hw⟩ => ⟨by cases h : numR s.data.toList <;> rw [he, h] <;> exact ⟨_, _, rfl⟩, hw⟩

/-- The world in the midst of split: the numbers' block, some draws. -/
def SW (w : World) (ns : List Nat) (m : Nat) : World := ((w.alloc (.cells (padN []) 123)).alloc (.cells (padN ns) 123)).drewN m
theorem SW_heap (w : World) (ns : List Nat) (m : Nat) : (SW w ns m).heap[w.heap.size + 1]? = some (.cells (padN ns) 123 (0, 0)) := heap_alloc2_new w _ _
theorem SW_heap0 (w : World) (ns : List Nat) (m : Nat) : (SW w ns m).heap[w.heap.size]? = some (.cells (padN []) 123 (0, 0)) := heap_alloc2_old w _ _
theorem SW_drewN (w : World) (ns : List Nat) (m n : Nat) : (SW w ns m).drewN n = SW w ns (m + n) := by unfold SW; rw [World.drewN_drewN]
theorem SW_start (w : World) : SW w [] 0 = (w.alloc (.cells (padN []) 123)).alloc (.cells (padN []) 123) := World.drewN_zero _
theorem SW_below (w : World) (ns : List Nat) (m : Nat) : Below w.heap.size w (SW w ns m) := below_drewN' (((Below.refl _ _).alloc (Nat.le_refl _) _).alloc (by simp) _) m
theorem padN_get (ns : List Nat) (k : Nat) (hk : k < 7) : (padN ns)[k]? = some (.int .i64 (ns.getD k 0)) := by
  match k, hk with
  | 0, _ => rfl
  | 1, _ => rfl
  | 2, _ => rfl
  | 3, _ => rfl
  | 4, _ => rfl
  | 5, _ => rfl
  | 6, _ => rfl
theorem getD_app (ns : List Nat) (n j : Nat) : (ns ++ [n]).getD j 0 = if j = ns.length then n else ns.getD j 0 := by
  rw [List.getD_eq_getElem?_getD, List.getD_eq_getElem?_getD, List.getElem?_append]
  by_cases h : j < ns.length
  · rw [if_pos h, if_neg (by omega)]
  · rw [if_neg h]
    by_cases h2 : j = ns.length
    · rw [if_pos h2, h2]; simp
    · rw [if_neg h2, List.getElem?_eq_none (by simp; omega), List.getElem?_eq_none (by omega)]
theorem padN_set (ns : List Nat) (n k : Nat) (hl : ns.length = k) (hk : k < 7) : (padN ns).setIfInBounds k (.int .i64 n) = padN (ns ++ [n]) := by
  subst hl
  apply Array.ext_getElem?
  intro j
  rw [Array.getElem?_setIfInBounds]
  by_cases hj : j < 7
  · rw [padN_get _ j hj, padN_get _ j hj, getD_app]
    by_cases h : j = ns.length
    · rw [if_pos h, if_pos h.symm, if_pos (by show ns.length < 7; exact hk)]
    · rw [if_neg h, if_neg (fun e => h e.symm)]
  · rw [if_neg (by omega), Array.getElem?_eq_none (by show 7 ≤ j; omega), Array.getElem?_eq_none (by show 7 ≤ j; omega)]
theorem SW_cell (w : World) (ns : List Nat) (m k : Nat) (hk : k < 7) : (SW w ns m).cell? ⟨w.heap.size + 1, k, none⟩ = some (.int .i64 (ns.getD k 0)) := by
  rw [cell_of_row _ _ k _ _ _ (SW_heap w ns m), padN_get ns k hk]
theorem SW_frozen (w : World) (ns : List Nat) (m k : Nat) : (SW w ns m).frozen? ⟨w.heap.size + 1, k, none⟩ = false := frozen_of_row _ _ k _ _ (SW_heap w ns m)
theorem SW_set (w : World) (ns : List Nat) (m n k : Nat) (hl : ns.length = k) (hk : k < 7) : (SW w ns m).setCell ⟨w.heap.size + 1, k, none⟩ (.int .i64 n) = SW w (ns ++ [n]) m := by
  rw [setCell_eq_setRow _ _ k _ _ _ _ (SW_heap w ns m), padN_set ns n k hl hk]
  have h := World.setRow_alloc_new (w.alloc (.cells (padN []) 123)) (padN ns) (padN (ns ++ [n])) 123
  rw [show (w.alloc (.cells (padN []) 123)).heap.size = w.heap.size + 1 by simp] at h
  exact congrArg (World.drewN · m) h

theorem SW_row (w : World) (ns ns' : List Nat) (m k : Nat) (v : Value) (h : (padN ns).setIfInBounds k v = padN ns') : (SW w ns m).setCell ⟨w.heap.size + 1, k, none⟩ v = SW w ns' m := by
  rw [setCell_eq_setRow _ _ k _ _ _ _ (SW_heap w ns m), h]
  have h := World.setRow_alloc_new (w.alloc (.cells (padN []) 123)) (padN ns) (padN ns') 123
  rw [show (w.alloc (.cells (padN []) 123)).heap.size = w.heap.size + 1 by simp] at h
  exact congrArg (World.drewN · m) h
theorem size_arr7 : (Tryz.prog.info? 123).map (·.size) = some 7 := by kernel_rfl
theorem padN_one (ns : List Nat) : (padN ns).all (·.oneCell') = true := by simp [padN, Value.oneCell']
theorem wpList_load_pad {ops : Array Oper} {rest : List Oper} {o : Oper} {a : Act} {Q : Exit → Act → World → Prop} (hgd : o.guard = none) (x : Operand) (ho : o.op = .load 123 x) (w : World) (ns : List Nat) (m : Nat)
    (hx : a.eval x = .pointer (some ⟨w.heap.size + 1, 0, none⟩)) (h : wpList Tryz.prog ops Q rest (a.put o.dst (.agg (padN ns))) (SW w ns m)) : wpList Tryz.prog ops Q (o :: rest) a (SW w ns m) :=
  wpList_load_row hgd 123 x ho _ hx 123 (padN ns) (0, 0) _ (SW_heap w ns m) Tryz.underlying123 rfl size_arr7 h
theorem wpList_store_pad {ops : Array Oper} {rest : List Oper} {o : Oper} {a : Act} {Q : Exit → Act → World → Prop} (hgd : o.guard = none) (x y : Operand) (ho : o.op = .store 123 x y) (w : World) (ns : List Nat) (m : Nat)
    (hx : a.eval x = .pointer (some ⟨w.heap.size, 0, none⟩)) (hy : a.eval y = .agg (padN ns)) (h : wpList Tryz.prog ops Q rest (a.put o.dst undef) ((SW w ns m).setRow w.heap.size (padN ns))) : wpList Tryz.prog ops Q (o :: rest) a (SW w ns m) :=
  wpList_store_row hgd 123 x y ho _ (padN ns) hx hy 123 (padN []) (SW_heap0 w ns m) size_arr7 rfl (padN_one ns) h
/-- Numbers and a word handed back, the numbers out of their block. -/
theorem results_pad {fn : Func} {p u : Tmp} (h : fn.results = #[.cell p 123, .tmp u]) (tmps : Array Value) (w : World) (ns : List Nat) (m : Nat) (v : Value)
    (hp : tmps.getD p undef = .pointer (some ⟨w.heap.size, 0, none⟩)) (hv : tmps.getD u undef = v) :
    (results fn tmps).run Tryz.prog ((SW w ns m).setRow w.heap.size (padN ns)) = .ok (.tuple #[.agg (padN ns), v]) ((SW w ns m).setRow w.heap.size (padN ns)) := by
  rw [results_cell_tmp h, hp, hv]
  have hl := run_loadVar_row (P := Tryz.prog) ((SW w ns m).setRow w.heap.size (padN ns)) w.heap.size 123 123 (padN ns) (0, 0) _ (setRow_heap _ _ _ _ _ _ (SW_heap0 w ns m)) Tryz.underlying123 rfl size_arr7
  simp [asAddr, hl]
theorem SWr_below (w : World) (ns : List Nat) (m : Nat) : Below w.heap.size w ((SW w ns m).setRow w.heap.size (padN ns)) := below_setRow (SW_below w ns m) (Nat.le_refl _) _
attribute [local go_sem] SW_drewN

theorem split_any (s : ByteArray) (hs : s.size < 4294967296) (w : World) :
    Calls Tryz.prog 77 #[.string s] w fun e w' => (∃ ns ok, e = .returned (.tuple #[.agg (padN ns), .bool ok]) ∧ (splitN signsL s.data.toList = if ok = true then some ns else none)) ∧ Below w.heap.size w w' := by
  go_enter Tryz.func77, Tryz.ntmps77
  go_wp2
  go_loopw [13, 0] (fun i x w' => ∃ (k m : Nat) (ns : List Nat) (cur : ByteArray), k ≤ 6 ∧ i = .int .i64 k ∧ x = .string cur ∧ cur.size < 4294967296 ∧ ns.length = k ∧ w' = SW w ns m ∧ Hid (splitN signsL s.data.toList = (splitN (signsL.drop k) cur.data.toList).map fun r => ns ++ r)) (fun i _ _ => 6 - (intOf i).toNat)
  case atStart => exact ⟨0, 0, [], s, by omega, rfl, rfl, hs, rfl, (SW_start w).symm, hide (by rw [List.drop_zero]; simp)⟩
  case round =>
    obtain ⟨k, m, ns, cur, hk, rfl, rfl, hcur, hl, rfl, HS⟩ := hrel
    have hcell := SW_cell w ns
    have hfro := SW_frozen w ns
    by_cases hlt : k < 6
    · have HD := hide (signs_drop k hlt)
      by_cases hi : Lib.indexByte cur.data.toList (signsL.getD k 0) < 0
      · have HV := hide (show splitN signsL s.data.toList = none by rw [HS.out, HD.out, splitN, if_pos hi]; rfl)
        have HI := hide hi
        clear hi
        go_wp2_with (first
          | (go_at_call 104; refine (cutS_miss cur k hlt HI.out _).mono ?_; rintro e w' ⟨rfl, n1, rfl⟩)
          | (go_at_call 105; refine (number_opt cur hcur _).mono ?_; rintro e w' ⟨⟨a, b, rfl⟩, n2, rfl⟩)
          | (refine wpList_load_pad rfl _ rfl w ns _ rfl ?_)
          | (refine wpList_store_pad rfl _ _ rfl w ns _ rfl rfl ?_)
          | (refine bodyPost_ret (results_pad rfl _ w ns _ (.bool false) rfl rfl) rfl ⟨⟨ns, false, rfl, ?_⟩, SWr_below _ _ _⟩; rw [HV.out]; rfl))
      · obtain ⟨i, hi'⟩ : ∃ i : Nat, Lib.indexByte cur.data.toList (signsL.getD k 0) = i := ⟨(Lib.indexByte cur.data.toList (signsL.getD k 0)).toNat, by omega⟩
        have HI := hide hi'
        have HX : splitN (signsL.drop k) cur.data.toList = (numR (cur.extract 0 i).data.toList).bind fun n => (splitN (signsL.drop (k + 1)) (cur.extract (i + 1) cur.size).data.toList).map fun r => n :: r := by
          rw [HD.out, splitN, if_neg hi, hi', Int.toNat_natCast, Lib.extract_data, Lib.extract_data, List.drop_zero, Nat.sub_zero]
          rw [List.take_of_length_le (l := cur.data.toList.drop (i + 1)) (by rw [List.length_drop, ← Lib.size_eq]; exact Nat.le_refl _)]
        have HX := hide HX
        clear hi hi'
        have hc1 : (cur.extract 0 i).size < 4294967296 := by simp; omega
        have hc2 : (cur.extract (i + 1) cur.size).size < 4294967296 := by simp; omega
        cases hn : numR (cur.extract 0 i).data.toList with
        | none =>
          have HV := hide (show splitN signsL s.data.toList = none by rw [HS.out, HX.out, hn]; rfl)
          have HN := hide hn
          clear hn
          go_wp2_with (first
            | (go_at_call 104; refine (cutS_hit cur k hlt i HI.out hcur _).mono ?_; rintro e w' ⟨rfl, n1, rfl⟩)
            | (go_at_call 105; refine (number_none _ HN.out hc1 _).mono ?_; rintro e w' ⟨rfl, n2, rfl⟩)
            | (refine wpList_load_pad rfl _ rfl w ns _ rfl ?_)
            | (refine wpList_store_pad rfl _ _ rfl w ns _ rfl rfl ?_)
            | (refine bodyPost_ret (results_pad rfl _ w ns _ (.bool false) rfl rfl) rfl ⟨⟨ns, false, rfl, ?_⟩, SWr_below _ _ _⟩; rw [HV.out]; rfl))
        | some n =>
          have HV := hide (show splitN signsL s.data.toList = (splitN (signsL.drop (k + 1)) (cur.extract (i + 1) cur.size).data.toList).map fun r => (ns ++ [n]) ++ r by
            rw [HS.out, HX.out, hn, Option.bind_some, Option.map_map]
            congr 1
            funext r
            simp)
          have HN := hide hn
          clear hn
          have hset := SW_set w ns
          go_wp2_with (first
            | (go_at_call 104; refine (cutS_hit cur k hlt i HI.out hcur _).mono ?_; rintro e w' ⟨rfl, n1, rfl⟩)
            | (go_at_call 105; refine (number_some _ n HN.out hc1 _).mono ?_; rintro e w' ⟨rfl, n2, rfl⟩))
          go_round
          case rel => exact ⟨k + 1, _, ns ++ [n], _, by omega, by go_num, rfl, hc2, by rw [List.length_append, hl]; rfl, rfl, HV⟩
          case measure => simp [intOf]; omega
    · obtain rfl : k = 6 := by omega
      have HX := hide (show splitN (signsL.drop 6) cur.data.toList = (numR cur.data.toList).map fun n => [n] from rfl)
      have hset := SW_set w ns
      cases hn : numR cur.data.toList with
      | none =>
        have HV := hide (show splitN signsL s.data.toList = none by rw [HS.out, HX.out, hn]; rfl)
        have HN := hide hn
        clear hn hset
        have hset : ∀ m, (SW w ns m).setCell ⟨w.heap.size + 1, 6, none⟩ (.int .i64 0) = SW w (ns ++ [0]) m := fun m => SW_set w ns m 0 6 hl (by omega)
        go_wp2_with (first
          | (go_at_call 105; refine (number_none _ HN.out hcur _).mono ?_; rintro e w' ⟨rfl, n2, rfl⟩)
          | (refine wpList_load_pad rfl _ rfl w _ _ rfl ?_)
          | (refine wpList_store_pad rfl _ _ rfl w _ _ rfl rfl ?_)
          | (refine bodyPost_ret (results_pad rfl _ w _ _ (.bool false) rfl rfl) rfl ⟨⟨_, false, rfl, ?_⟩, SWr_below _ _ _⟩; rw [HV.out]; rfl))
      | some n =>
        have HV := hide (show splitN signsL s.data.toList = some (ns ++ [n]) by rw [HS.out, HX.out, hn]; rfl)
        have HN := hide hn
        clear hn
        go_wp2_with (first
          | (go_at_call 105; refine (number_some _ n HN.out hcur _).mono ?_; rintro e w' ⟨rfl, n2, rfl⟩)
          | (refine wpList_load_pad rfl _ rfl w _ _ rfl ?_)
          | (refine wpList_store_pad rfl _ _ rfl w _ _ rfl rfl ?_)
          | (refine bodyPost_ret (results_pad rfl _ w _ _ (.bool true) rfl rfl) rfl ⟨⟨_, true, rfl, ?_⟩, SWr_below _ _ _⟩; rw [HV.out]; rfl))
end Go.Proofs.YtbifjokfnahiaabGreatDoor

/- addr.Parse. -/
namespace Go.Proofs.YtbifjokfnahiaabGreatDoor
open Go.RowKit

def parseV : Option (Nat × Nat × Nat × Nat) → Value
  | none => .tuple #[netV 0 0 0 0, .iface 61 (.int .i64 4)]
  | some (ip, b, lo, hi) => .tuple #[netV ip b lo hi, .nilIface]

abbrev netC (ip b lo hi : Nat) : Array Value := #[.int .u32 ip, .int .i64 b, .int .i64 lo, .int .i64 hi]
theorem size_net : (Tryz.prog.info? 58).map (·.size) = some 4 := by kernel_rfl

/-- A net and a word handed back, the net out of its block. -/
theorem results_net {fn : Func} {p u : Tmp} (h : fn.results = #[.cell p 58, .tmp u]) (tmps : Array Value) (w : World) (g ip b lo hi : Nat) (v : Value)
    (hp : tmps.getD p undef = .pointer (some ⟨g, 0, none⟩)) (hv : tmps.getD u undef = v) (hg : w.heap[g]? = some (.cells (netC ip b lo hi) 58 (0, 0))) :
    (results fn tmps).run Tryz.prog w = .ok (.tuple #[netV ip b lo hi, v]) w := by
  rw [results_cell_tmp h, hp, hv]
  have hl := run_loadVar_row (P := Tryz.prog) w g 58 58 (netC ip b lo hi) (0, 0) _ hg Tryz.underlying58 rfl size_net
  simp [asAddr, hl]

/-- The world in the midst of Parse. -/
def NW (W : World) (ns : List Nat) (ip b lo hi m : Nat) : World := ((W.alloc (.cells (padN ns) 123)).alloc (.cells (netC ip b lo hi) 58)).drewN m
theorem NW_old (W : World) (ns : List Nat) (ip b lo hi m g : Nat) (hg : g < W.heap.size) : (NW W ns ip b lo hi m).heap[g]? = W.heap[g]? := by
  show ((W.alloc _).alloc _).heap[g]? = _
  rw [show ((W.alloc (.cells (padN ns) 123)).alloc (.cells (netC ip b lo hi) 58)).heap[g]? = (W.alloc (.cells (padN ns) 123)).heap[g]? from Go.heap_alloc_old _ _ (h := by simp; omega)]
  exact Go.heap_alloc_old _ _ (h := hg)
theorem NW_nums (W : World) (ns : List Nat) (ip b lo hi m : Nat) : (NW W ns ip b lo hi m).heap[W.heap.size]? = some (.cells (padN ns) 123 (0, 0)) := heap_alloc2_old W _ _
theorem NW_net (W : World) (ns : List Nat) (ip b lo hi m : Nat) : (NW W ns ip b lo hi m).heap[W.heap.size + 1]? = some (.cells (netC ip b lo hi) 58 (0, 0)) := heap_alloc2_new W _ _
theorem NW_num (W : World) (ns : List Nat) (ip b lo hi m k : Nat) (hk : k < 7) : (NW W ns ip b lo hi m).cell? ⟨W.heap.size, k, none⟩ = some (.int .i64 (ns.getD k 0)) := by
  rw [cell_of_row _ _ k _ _ _ (NW_nums W ns ip b lo hi m), padN_get ns k hk]
theorem NW_row (W : World) (ns : List Nat) (ip b lo hi m ip' b' lo' hi' : Nat) : (NW W ns ip b lo hi m).setRow (W.heap.size + 1) (netC ip' b' lo' hi') = NW W ns ip' b' lo' hi' m := by
  have h := World.setRow_alloc_new (W.alloc (.cells (padN ns) 123)) (netC ip b lo hi) (netC ip' b' lo' hi') 58
  rw [show (W.alloc (.cells (padN ns) 123)).heap.size = W.heap.size + 1 by simp] at h
  exact congrArg (World.drewN · m) h
theorem NW_c0 (W : World) (ns : List Nat) (ip b lo hi m : Nat) : (NW W ns ip b lo hi m).cell? ⟨W.heap.size + 1, 0, none⟩ = some (.int .u32 ip) := cell_of_row _ _ 0 _ _ _ (NW_net W ns ip b lo hi m)
theorem NW_c1 (W : World) (ns : List Nat) (ip b lo hi m : Nat) : (NW W ns ip b lo hi m).cell? ⟨W.heap.size + 1, 1, none⟩ = some (.int .i64 b) := cell_of_row _ _ 1 _ _ _ (NW_net W ns ip b lo hi m)
theorem NW_c2 (W : World) (ns : List Nat) (ip b lo hi m : Nat) : (NW W ns ip b lo hi m).cell? ⟨W.heap.size + 1, 2, none⟩ = some (.int .i64 lo) := cell_of_row _ _ 2 _ _ _ (NW_net W ns ip b lo hi m)
theorem NW_c3 (W : World) (ns : List Nat) (ip b lo hi m : Nat) : (NW W ns ip b lo hi m).cell? ⟨W.heap.size + 1, 3, none⟩ = some (.int .i64 hi) := cell_of_row _ _ 3 _ _ _ (NW_net W ns ip b lo hi m)
theorem NW_fro (W : World) (ns : List Nat) (ip b lo hi m k : Nat) : (NW W ns ip b lo hi m).frozen? ⟨W.heap.size + 1, k, none⟩ = false := frozen_of_row _ _ k _ _ (NW_net W ns ip b lo hi m)
theorem NW_s0 (W : World) (ns : List Nat) (ip b lo hi m x : Nat) : (NW W ns ip b lo hi m).setCell ⟨W.heap.size + 1, 0, none⟩ (.int .u32 x) = NW W ns x b lo hi m := by
  rw [setCell_eq_setRow _ _ 0 _ _ _ _ (NW_net W ns ip b lo hi m)]; exact NW_row W ns ip b lo hi m x b lo hi
theorem NW_s1 (W : World) (ns : List Nat) (ip b lo hi m x : Nat) : (NW W ns ip b lo hi m).setCell ⟨W.heap.size + 1, 1, none⟩ (.int .i64 x) = NW W ns ip x lo hi m := by
  rw [setCell_eq_setRow _ _ 1 _ _ _ _ (NW_net W ns ip b lo hi m)]; exact NW_row W ns ip b lo hi m ip x lo hi
theorem NW_s2 (W : World) (ns : List Nat) (ip b lo hi m x : Nat) : (NW W ns ip b lo hi m).setCell ⟨W.heap.size + 1, 2, none⟩ (.int .i64 x) = NW W ns ip b x hi m := by
  rw [setCell_eq_setRow _ _ 2 _ _ _ _ (NW_net W ns ip b lo hi m)]; exact NW_row W ns ip b lo hi m ip b x hi
theorem NW_s3 (W : World) (ns : List Nat) (ip b lo hi m x : Nat) : (NW W ns ip b lo hi m).setCell ⟨W.heap.size + 1, 3, none⟩ (.int .i64 x) = NW W ns ip b lo x m := by
  rw [setCell_eq_setRow _ _ 3 _ _ _ _ (NW_net W ns ip b lo hi m)]; exact NW_row W ns ip b lo hi m ip b lo x
theorem NW_drewN (W : World) (ns : List Nat) (ip b lo hi m n : Nat) : (NW W ns ip b lo hi m).drewN n = NW W ns ip b lo hi (m + n) := by unfold NW; rw [World.drewN_drewN]
theorem NW_start (W : World) (ns : List Nat) : NW W ns 0 0 0 0 0 = (W.alloc (.cells (padN ns) 123)).alloc (.cells (netC 0 0 0 0) 58) := World.drewN_zero _
theorem NW_below (W : World) (ns : List Nat) (ip b lo hi m : Nat) : Below W.heap.size W (NW W ns ip b lo hi m) := below_drewN' (((Below.refl _ _).alloc (Nat.le_refl _) _).alloc (by simp) _) m
theorem NW_drew (W : World) (ns : List Nat) (ip b lo hi m : Nat) : (NW W ns ip b lo hi m).drew = NW W ns ip b lo hi (m + 1) := NW_drewN W ns ip b lo hi m 1
attribute [local go_sem] NW_drew NW_num NW_c0 NW_c1 NW_c2 NW_c3 NW_fro NW_s0 NW_s1 NW_s2 NW_s3 NW_drewN

/-- A net laid cell by cell into the result's block. -/
theorem res_start {X : World} {g : Nat} (hX : X.heap[g]? = some (.cells (netC 0 0 0 0) 58 (0, 0))) :
    X.cell? ⟨g, 0, none⟩ = some (.int .u32 0) ∧ (∀ k, X.frozen? ⟨g, k, none⟩ = false) ∧ (∀ a, X.setCell ⟨g, 0, none⟩ (.int .u32 a) = X.setRow g #[.int .u32 a, .int .i64 0, .int .i64 0, .int .i64 0]) :=
  ⟨cell_of_row _ _ 0 _ _ _ hX, fun k => frozen_of_row _ _ k _ _ hX, fun _ => setCell_eq_setRow _ _ 0 _ _ _ _ hX⟩
theorem setRow_twice (X : World) (g : Nat) (c0 c1 c2 : Array Value) (hX : X.heap[g]? = some (.cells c0 58 (0, 0))) : (X.setRow g c1).setRow g c2 = X.setRow g c2 := by
  have hg := (Array.getElem?_eq_some_iff.1 hX).1
  unfold World.setRow
  congr 1
  apply Array.ext_getElem?
  intro j
  simp only [Array.getElem?_modify]
  by_cases h : g = j
  · subst h
    simp [hX]
  · simp [h]
theorem res_row {X : World} {g : Nat} {c0 : Array Value} (hX : X.heap[g]? = some (.cells c0 58 (0, 0))) :
    (∀ cs k, (X.setRow g cs).cell? ⟨g, k, none⟩ = cs[k]?) ∧ (∀ cs k, (X.setRow g cs).frozen? ⟨g, k, none⟩ = false) ∧ (∀ cs k v, (X.setRow g cs).setCell ⟨g, k, none⟩ v = X.setRow g (cs.setIfInBounds k v)) :=
  ⟨fun cs k => cell_of_row _ _ k _ _ _ (setRow_heap _ _ _ cs _ _ hX), fun cs k => frozen_of_row _ _ k _ _ (setRow_heap _ _ _ cs _ _ hX), fun cs k v => by
    rw [setCell_eq_setRow _ _ k _ _ _ _ (setRow_heap _ _ _ cs _ _ hX), setRow_twice X g c0 _ _ hX]⟩

def ipP (ns : List Nat) : Nat → Nat
  | 0 => 0
  | k + 1 => ipP ns k * 256 + ns.getD k 0
theorem ipP_succ (ns : List Nat) (k : Nat) : ipP ns (k + 1) = ipP ns k * 256 + ns.getD k 0 := rfl

theorem alloc_old (W : World) (o : Obj) (g : Nat) (hg : g < W.heap.size) : (W.alloc o).heap[g]? = W.heap[g]? := Go.heap_alloc_old _ _ (h := hg)
theorem ipP_or (ns : List Nat) (k : Nat) (hk : k < 4) (hip : ipP ns k < 256 ^ k) (hb : ns.getD k 0 ≤ 255) : bits .or .u32 ((ipP ns k : Int) * 256 % 4294967296) (ns.getD k 0 : Int) = ((ipP ns (k + 1) : Nat) : Int) := by
  have h3 : ipP ns k < 16777216 := Nat.lt_of_lt_of_le hip (Nat.pow_le_pow_right (n := 256) (j := 3) (by decide) (by omega))
  rw [show (ipP ns k : Int) * 256 % 4294967296 = (ipP ns k : Int) * 256 by omega, u32_or8 _ _ h3 (by omega)]
  rfl
theorem parse_big {s : List UInt8} {ns : List Nat} (hs : splitN signsL s = some ns) (k : Nat) (hk : k < 4) (hb : ¬ ns.getD k 0 ≤ 255) : parseR s = none := by
  obtain ⟨hlen, _, _⟩ := splitN_some _ _ _ hs
  obtain ⟨a, b, c, d, e, f, g, rfl⟩ := len7 hlen
  unfold parseR
  rw [hs]
  show (if _ then _ else _) = _
  rw [if_neg]
  rintro ⟨h1, h2, h3, h4, _⟩
  match k, hk with
  | 0, _ => exact hb h1
  | 1, _ => exact hb h2
  | 2, _ => exact hb h3
  | 3, _ => exact hb h4

theorem nw_after {w W W2 : World} {ns : List Nat} {ip b lo hi m : Nat} (hwW : w.heap.size < W.heap.size) (hR : W.heap[w.heap.size]? = some (.cells (netC 0 0 0 0) 58 (0, 0)))
    (h : Below (NW W ns ip b lo hi m).heap.size (NW W ns ip b lo hi m) W2) : W2.heap[w.heap.size]? = some (.cells (netC 0 0 0 0) 58 (0, 0)) ∧ W2.heap[W.heap.size + 1]? = some (.cells (netC ip b lo hi) 58 (0, 0)) ∧ Below W.heap.size W W2 := by
  have hz : (NW W ns ip b lo hi m).heap.size = W.heap.size + 2 := by show ((W.alloc _).alloc _).heap.size = _; simp
  exact ⟨(h.block _ (by omega)).trans ((NW_old _ _ _ _ _ _ _ _ hwW).trans hR), (h.block _ (by omega)).trans (NW_net _ _ _ _ _ _ _), (NW_below _ _ _ _ _ _ _).trans (h.mono (by omega))⟩
theorem getD_lt {ns : List Nat} (h : ∀ n ∈ ns, n < 100000) (k : Nat) : ns.getD k 0 < 100000 := by
  rw [List.getD_eq_getElem?_getD]
  by_cases hk : k < ns.length
  · rw [List.getElem?_eq_getElem hk]; exact h _ (List.getElem_mem hk)
  · rw [List.getElem?_eq_none (by omega)]; exact Nat.lt_of_lt_of_le Nat.one_pos (by decide)
theorem parse_end {s : List UInt8} {ns : List Nat} (hs : splitN signsL s = some ns) (hle : ∀ j, j < 4 → ns.getD j 0 ≤ 255) :
    parseR s = if faultOf (ipP ns 4) (ns.getD 4 0) (ns.getD 5 0) (ns.getD 6 0) = 0 then some (ipP ns 4, ns.getD 4 0, ns.getD 5 0, ns.getD 6 0) else none := by
  obtain ⟨hlen, _, _⟩ := splitN_some _ _ _ hs
  obtain ⟨a, b, c, d, e, f, g, rfl⟩ := len7 hlen
  have h0 : a ≤ 255 := hle 0 (by omega)
  have h1 : b ≤ 255 := hle 1 (by omega)
  have h2 : c ≤ 255 := hle 2 (by omega)
  have h3 : d ≤ 255 := hle 3 (by omega)
  have hi : ipP [a, b, c, d, e, f, g] 4 = ipOf a b c d := by
    show (((0 * 256 + a) * 256 + b) * 256 + c) * 256 + d = ((a * 256 + b) * 256 + c) * 256 + d
    rw [Nat.zero_mul, Nat.zero_add]
  rw [hi]
  unfold parseR
  rw [hs]
  show (if _ then _ else _) = if faultOf (ipOf a b c d) (e : Nat) (f : Nat) (g : Nat) = 0 then _ else _
  by_cases hf : faultOf (ipOf a b c d) (e : Nat) (f : Nat) (g : Nat) = 0
  · rw [if_pos ⟨h0, h1, h2, h3, hf⟩, if_pos hf]; rfl
  · rw [if_neg (fun h => hf h.2.2.2.2), if_neg hf]

theorem aparse_any (s : ByteArray) (hs : s.size < 4294967296) (w : World) :
    Calls Tryz.prog 58 #[.string s] w fun e w' => e = .returned (parseV (parseR s.data.toList)) ∧ Below w.heap.size w w' := by
  go_enter Tryz.func58, Tryz.ntmps58
  go_wp2_with (go_at_call 77; refine (split_any s hs _).mono ?_; rintro e W ⟨⟨ns, ok, rfl, hsp⟩, hW⟩; have HSP := hide hsp; clear hsp; refine Hid.out ?_)
  refine hide ?_
  have hwW : w.heap.size < W.heap.size := by have := hW.size; simp at this; omega
  have hR : W.heap[w.heap.size]? = some (.cells (netC 0 0 0 0) 58 (0, 0)) := (hW.block _ (by simp)).trans (heap_alloc_new w _)
  have HW := hide (show Below w.heap.size w W from ((Below.refl w.heap.size w).alloc (Nat.le_refl _) _).trans (hW.mono (by simp)))
  clear hW
  cases ok with
  | false =>
    have HV := hide (show parseR s.data.toList = none by unfold parseR; rw [HSP.out]; rfl)
    have hR2 : (W.alloc (.cells (padN ns) 123)).heap[w.heap.size]? = some (.cells (netC 0 0 0 0) 58 (0, 0)) := (alloc_old _ _ _ hwW).trans hR
    obtain ⟨r1, r2, r3⟩ := res_start hR2
    obtain ⟨r4, r5, r6⟩ := res_row hR2
    go_wp2_with (first
      | (refine wpList_store_row rfl 123 _ _ rfl W.heap.size (padN ns) rfl rfl 123 (padN []) (heap_alloc_new _ _) size_arr7 rfl (padN_one ns) ?_; rw [World.setRow_alloc_new])
      | (refine bodyPost_ret (results_net rfl _ _ w.heap.size 0 0 0 0 (.iface 61 (.int .i64 4)) rfl rfl (setRow_heap _ _ _ _ _ _ hR2)) rfl ⟨?_, ?_⟩; (· rw [HV.out]; rfl); (· exact below_setRow (HW.out.alloc (by omega) _) (Nat.le_refl _) _)))
  | true =>
    have hsp : splitN signsL s.data.toList = some ns := HSP.out
    obtain ⟨hlen, hmem, _⟩ := splitN_some _ _ _ hsp
    go_wp2_with (refine wpList_store_row rfl 123 _ _ rfl W.heap.size (padN ns) rfl rfl 123 (padN []) (heap_alloc_new _ _) size_arr7 rfl (padN_one ns) ?_; rw [World.setRow_alloc_new])
    go_loopw [17] (fun i w' => ∃ k m : Nat, k ≤ 4 ∧ i = .int .i64 k ∧ w' = NW W ns (ipP ns k) 0 0 0 m ∧ (∀ j, j < k → ns.getD j 0 ≤ 255) ∧ ipP ns k < 256 ^ k) (fun i _ => 4 - (intOf i).toNat)
    case atStart => exact ⟨0, 0, by omega, rfl, (NW_start W ns).symm, fun j hj => by omega, Nat.one_pos⟩
    case round =>
      obtain ⟨k, m, hk, rfl, rfl, hle, hip⟩ := hrel
      by_cases hlt : k < 4
      · obtain ⟨nk, hnk⟩ : ∃ nk, nk = ns.getD k 0 := ⟨_, rfl⟩
        have hN : ∀ m, (NW W ns (ipP ns k) 0 0 0 m).cell? ⟨W.heap.size, k, none⟩ = some (.int .i64 nk) := fun m => by rw [hnk]; exact NW_num W ns (ipP ns k) 0 0 0 m k (by omega)
        by_cases hb : ns.getD k 0 ≤ 255
        · have HE := ipP_or ns k hlt hip hb
          have hip2 : ipP ns (k + 1) < 256 ^ (k + 1) := by rw [ipP_succ, Nat.pow_succ]; omega
          rw [← hnk] at HE hb
          have HK := hide hnk
          clear hnk
          go_wp2
          go_region
          go_wp2
          go_round
          case rel => exact ⟨k + 1, m + 1, by omega, by go_num, rfl, fun j hj => by
            rcases Nat.lt_or_ge j k with h | h
            · exact hle j h
            · rw [show j = k by omega, ← HK.out]; exact hb, hip2⟩
          case measure => simp [intOf]; omega
        · have HV := hide (show parseR s.data.toList = none from parse_big hsp k hlt hb)
          rw [← hnk] at hb
          clear hnk
          have hR2 : (NW W ns (ipP ns k) 0 0 0 m).heap[w.heap.size]? = some (.cells (netC 0 0 0 0) 58 (0, 0)) := (NW_old _ _ _ _ _ _ _ _ hwW).trans hR
          obtain ⟨r1, r2, r3⟩ := res_start hR2
          obtain ⟨r4, r5, r6⟩ := res_row hR2
          go_wp2_with (first
            | (refine bodyPost_ret (results_net rfl _ _ w.heap.size 0 0 0 0 (.iface 61 (.int .i64 4)) rfl rfl (setRow_heap _ _ _ _ _ _ hR2)) rfl ⟨?_, ?_⟩; (· rw [HV.out]; rfl); (· exact below_setRow (HW.out.trans ((NW_below _ _ _ _ _ _ _).mono (by omega))) (Nat.le_refl _) _)))
      · obtain rfl : k = 4 := by omega
        obtain ⟨n4, h4⟩ : ∃ n, n = ns.getD 4 0 := ⟨_, rfl⟩
        obtain ⟨n5, h5⟩ : ∃ n, n = ns.getD 5 0 := ⟨_, rfl⟩
        obtain ⟨n6, h6⟩ : ∃ n, n = ns.getD 6 0 := ⟨_, rfl⟩
        obtain ⟨ip, h7⟩ : ∃ n, n = ipP ns 4 := ⟨_, rfl⟩
        have HP := hide (parse_end hsp hle)
        have hN4 : ∀ a b c d m, (NW W ns a b c d m).cell? ⟨W.heap.size, 4, none⟩ = some (.int .i64 n4) := fun a b c d m => by rw [h4]; exact NW_num W ns a b c d m 4 (by omega)
        have hN5 : ∀ a b c d m, (NW W ns a b c d m).cell? ⟨W.heap.size, 5, none⟩ = some (.int .i64 n5) := fun a b c d m => by rw [h5]; exact NW_num W ns a b c d m 5 (by omega)
        have hN6 : ∀ a b c d m, (NW W ns a b c d m).cell? ⟨W.heap.size, 6, none⟩ = some (.int .i64 n6) := fun a b c d m => by rw [h6]; exact NW_num W ns a b c d m 6 (by omega)
        have hip4 : ip < 4294967296 := by rw [h7]; exact hip
        have l4 : n4 < 100000 := by rw [h4]; exact getD_lt hmem 4
        have l5 : n5 < 100000 := by rw [h5]; exact getD_lt hmem 5
        have l6 : n6 < 100000 := by rw [h6]; exact getD_lt hmem 6
        rw [← h4, ← h5, ← h6, ← h7] at HP
        rw [← h7]
        clear h4 h5 h6 h7 hip hle hsp
        by_cases hf : faultOf ip n4 n5 n6 = 0
        · have HV := hide (show parseR s.data.toList = some (ip, n4, n5, n6) by rw [HP.out, if_pos hf])
          have HE := hide (show errV (faultOf ip n4 n5 n6) = .nilIface by rw [hf]; rfl)
          clear hf
          go_wp2
          go_region
          go_wp2_with (go_at_call 35; refine (acheck_any ip hip4 n4 n5 n6 ⟨by omega, by omega⟩ ⟨by omega, by omega⟩ ⟨by omega, by omega⟩ _).mono ?_; rw [HE.out]; rintro e W2 ⟨rfl, hW2⟩; obtain ⟨hR2, hN2, hB2⟩ := nw_after hwW hR hW2; clear hW2; obtain ⟨r1, r2, r3⟩ := res_start hR2; obtain ⟨r4, r5, r6⟩ := res_row hR2; have c0 := cell_of_row _ _ 0 _ _ _ hN2; have c1 := cell_of_row _ _ 1 _ _ _ hN2; have c2 := cell_of_row _ _ 2 _ _ _ hN2; have c3 := cell_of_row _ _ 3 _ _ _ hN2; refine Hid.out ?_)
          refine hide ?_
          go_wp2_with (refine bodyPost_ret (results_net rfl _ _ w.heap.size ip n4 n5 n6 .nilIface rfl rfl (setRow_heap _ _ _ _ _ _ hR2)) rfl ⟨?_, ?_⟩; (· rw [HV.out]; rfl); (· exact below_setRow (HW.out.trans (hB2.mono (by omega))) (Nat.le_refl _) _))
        · have HV := hide (show parseR s.data.toList = none by rw [HP.out, if_neg hf])
          have HE := hide (show errV (faultOf ip n4 n5 n6) = .iface 61 (.int .i64 (faultOf ip n4 n5 n6 : Nat)) by unfold errV; rw [if_neg hf])
          clear hf
          go_wp2
          go_region
          go_wp2_with (go_at_call 35; refine (acheck_any ip hip4 n4 n5 n6 ⟨by omega, by omega⟩ ⟨by omega, by omega⟩ ⟨by omega, by omega⟩ _).mono ?_; rw [HE.out]; rintro e W2 ⟨rfl, hW2⟩; obtain ⟨hR2, hN2, hB2⟩ := nw_after hwW hR hW2; clear hW2; obtain ⟨r1, r2, r3⟩ := res_start hR2; obtain ⟨r4, r5, r6⟩ := res_row hR2; refine Hid.out ?_)
          refine hide ?_
          go_wp2_with (refine bodyPost_ret (results_net rfl _ _ w.heap.size 0 0 0 0 (.iface 61 (.int .i64 4)) rfl rfl (setRow_heap _ _ _ _ _ _ hR2)) rfl ⟨?_, ?_⟩; (· rw [HV.out]; rfl); (· exact below_setRow (HW.out.trans (hB2.mono (by omega))) (Nat.le_refl _) _))
end Go.Proofs.YtbifjokfnahiaabGreatDoor

/- addr.numbers. -/
namespace Go.Proofs.YtbifjokfnahiaabGreatDoor
open Go.RowKit

/-- The numbers, k of the address's written. -/
def numsK (ip b lo hi k : Nat) : List Nat := [if 0 < k then ipB ip 0 else 0, if 1 < k then ipB ip 1 else 0, if 2 < k then ipB ip 2 else 0, if 3 < k then ipB ip 3 else 0, b, lo, hi]
theorem numsK_set (ip b lo hi k : Nat) (hk : k < 4) : (padN (numsK ip b lo hi k)).setIfInBounds k (.int .i64 (ipB ip k : Nat)) = padN (numsK ip b lo hi (k + 1)) := by
  match k, hk with
  | 0, _ => rfl
  | 1, _ => rfl
  | 2, _ => rfl
  | 3, _ => rfl
theorem numsK_end (ip b lo hi : Nat) (hip : ip < 4294967296) : numsK ip b lo hi 4 = netNums ip b lo hi := by
  show [ipB ip 0, ipB ip 1, ipB ip 2, ipB ip 3, b, lo, hi] = _
  unfold ipB netNums
  rw [show ip / 2 ^ (24 - 8 * 0) % 256 = ip / 16777216 by omega, show ip / 2 ^ (24 - 8 * 1) % 256 = ip / 65536 % 256 by omega, show ip / 2 ^ (24 - 8 * 2) % 256 = ip / 256 % 256 by omega, show ip / 2 ^ (24 - 8 * 3) % 256 = ip % 256 by omega]

theorem SW_old (V : World) (ns : List Nat) (m g : Nat) (hg : g < V.heap.size) (o : Nat) : (SW V ns m).cell? ⟨g, o, none⟩ = V.cell? ⟨g, o, none⟩ := (SW_below V ns m).cell (p := ⟨g, o, none⟩) hg
theorem SW_drew (w : World) (ns : List Nat) (m : Nat) : (SW w ns m).drew = SW w ns (m + 1) := SW_drewN w ns m 1
attribute [local go_sem] SW_drewN SW_drew

theorem numbers_any (ip b lo hi : Nat) (hip : ip < 4294967296) (w : World) :
    Calls Tryz.prog 62 #[netV ip b lo hi] w fun e w' => e = .returned (.agg (padN (netNums ip b lo hi))) ∧ Below w.heap.size w w' := by
  have HEND := hide (numsK_end ip b lo hi hip)
  go_enter Tryz.func62, Tryz.ntmps62
  go_wp2
  obtain ⟨V, hV⟩ : ∃ V, V = w.alloc (.cells #[.int .u32 ip, .int .i64 b, .int .i64 lo, .int .i64 hi] 58) := ⟨_, rfl⟩
  have hz : w.heap.size + 1 = V.heap.size := by rw [hV]; simp
  have hBV := hide (show Below w.heap.size w V by rw [hV]; exact (Below.refl _ _).alloc (Nat.le_refl _) _)
  have hc0 : V.cell? ⟨w.heap.size, 0, none⟩ = some (.int .u32 ip) := by rw [hV]; exact World.cell?_alloc_at _ _ _ _ rfl
  have hc : ∀ ns m, (SW V ns m).cell? ⟨w.heap.size, 0, none⟩ = some (.int .u32 ip) := fun ns m => (SW_old V ns m _ (by omega) 0).trans hc0
  rw [← hV, hz]
  clear hV hc0
  go_loopw [12] (fun i w' => ∃ k m : Nat, k ≤ 4 ∧ i = .int .i64 k ∧ w' = SW V (numsK ip b lo hi k) m) (fun i _ => 4 - (intOf i).toNat)
  case atStart => exact ⟨0, 0, by omega, rfl, (World.drewN_zero _).symm⟩
  case round =>
    obtain ⟨k, m, hk, rfl, rfl⟩ := hrel
    by_cases hlt : k < 4
    · have hcell : ∀ m, (SW V (numsK ip b lo hi k) m).cell? ⟨V.heap.size + 1, k, none⟩ = some _ := fun m => SW_cell V (numsK ip b lo hi k) m k (by omega)
      have hfro := SW_frozen V (numsK ip b lo hi k)
      have hlb := ipB_lt ip k
      have hset : ∀ m, (SW V (numsK ip b lo hi k) m).setCell ⟨V.heap.size + 1, k, none⟩ (.int .i64 (ipB ip k : Nat)) = SW V (numsK ip b lo hi (k + 1)) m := fun m => SW_row V _ _ m k _ (numsK_set ip b lo hi k hlt)
      go_wp2_with (go_at_call 89; refine (ipByte_any ip k hip (by omega) _).mono ?_; rintro e w' ⟨rfl, rfl⟩)
      go_round
      case rel => exact ⟨k + 1, m, by omega, by go_num, rfl⟩
      case measure => simp [intOf]; omega
    · obtain rfl : k = 4 := by omega
      go_wp2_with (first
        | (refine wpList_load_pad rfl _ rfl V _ _ rfl ?_)
        | (refine wpList_store_pad rfl _ _ rfl V _ _ rfl rfl ?_))
      refine bodyPost_ret (results_cell_row rfl _ _ V.heap.size 123 (padN (numsK ip b lo hi 4)) (0, 0) _ rfl (setRow_heap _ _ _ _ _ _ (SW_heap0 V _ _)) Tryz.underlying123 rfl size_arr7) rfl ⟨?_, ?_⟩
      · rw [HEND.out]
      · exact hBV.out.trans ((SWr_below V _ _).mono (by omega))
end Go.Proofs.YtbifjokfnahiaabGreatDoor

/- addr.Text. -/
namespace Go.Proofs.YtbifjokfnahiaabGreatDoor
open Go.RowKit Go.Sort

/-- What Text hands back. -/
def textV (ip : Nat) (b lo hi : Int) : Value := .tuple #[.string (if faultOf ip b lo hi = 0 then ⟨(netText ip b.toNat lo.toNat hi.toNat).toArray⟩ else ⟨#[]⟩), errV (faultOf ip b lo hi)]

/-- The world behind 'l := numbers(n)'. -/
def TX (w : World) (L : Nat) (ns : List Nat) (X : World) : Prop := Below w.heap.size w X ∧ X.heap[L]? = some (.cells (padN ns) 123 (0, 0)) ∧ Tab X
theorem TX.on {w X Y : World} {L : Nat} {ns : List Nat} (h : TX w L ns X) (hb : Below X.heap.size X Y) : TX w L ns Y :=
  ⟨h.1.trans (hb.mono h.1.size), (hb.block L (Array.getElem?_eq_some_iff.1 h.2.1).1).trans h.2.1, tab_on h.2.2 hb⟩
theorem TX.drew {w X : World} {L : Nat} {ns : List Nat} (h : TX w L ns X) : TX w L ns X.drew := ⟨below_drewN' h.1 1, h.2.1, h.2.2⟩
theorem TX.cell {w X : World} {L : Nat} {ns : List Nat} (h : TX w L ns X) (k : Nat) (hk : k < 7) : X.cell? ⟨L, k, none⟩ = some (.int .i64 (ns.getD k 0)) := by
  rw [cell_of_row _ _ k _ _ _ h.2.1, padN_get ns k hk]
theorem wpList_forget {P : Program} {ops : Array Oper} {r : List Oper} {Q : Exit → Act → World → Prop} {a : Act} {W0 : World} (F : World → Prop) (h : F W0) (H : ∀ W, F W → wpList P ops Q r a W) : wpList P ops Q r a W0 := H _ h

/-- The text of the first k + 1 numbers. -/
def textK (ns : List Nat) (k : Nat) : List UInt8 := joinN (signsL.take k) ns
theorem textK_zero (ns : List Nat) (h : ns.length = 7) : textK ns 0 = Lib.decDigits (ns.getD 0 0) := by
  obtain ⟨a, b, c, d, e, f, g, rfl⟩ := len7 h
  rfl
theorem textK_succ (ns : List Nat) (h : ns.length = 7) (k : Nat) (hk : k < 6) : textK ns (k + 1) = textK ns k ++ (signsL.getD k 0 :: Lib.decDigits (ns.getD (k + 1) 0)) := by
  obtain ⟨a, b, c, d, e, f, g, rfl⟩ := len7 h
  match k, hk with
  | 0, _ => rfl
  | 1, _ => simp [textK, signsL, joinN]
  | 2, _ => simp [textK, signsL, joinN]
  | 3, _ => simp [textK, signsL, joinN]
  | 4, _ => simp [textK, signsL, joinN]
  | 5, _ => simp [textK, signsL, joinN]

theorem textK_len (ns : List Nat) (h : ns.length = 7) (hb : ∀ k, ns.getD k 0 < 100000) : ∀ k, k ≤ 6 → (textK ns k).length ≤ 6 * (k + 1)
  | 0, _ => by
    rw [textK_zero ns h, Lib.decDigits_length]
    have := nDigits_le5 _ (hb 0)
    omega
  | k + 1, hk => by
    rw [textK_succ ns h k (by omega), List.length_append, List.length_cons, Lib.decDigits_length]
    have := nDigits_le5 _ (hb (k + 1))
    have := textK_len ns h hb k (by omega)
    omega
theorem textK_all {ns : List Nat} {ip b lo hi : Nat} (h : ns = netNums ip b lo hi) : textK ns 6 = netText ip b lo hi := by rw [h]; rfl

set_option maxHeartbeats 1000000 in
theorem text_any (ip : Nat) (hip : ip < 4294967296) (b lo hi : Int) (hb : -9223372036854775808 ≤ b ∧ b ≤ 9223372036854775807) (hl : -9223372036854775808 ≤ lo ∧ lo ≤ 9223372036854775807) (hh : -9223372036854775808 ≤ hi ∧ hi ≤ 9223372036854775807) (w : World) (ht : Tab w) :
    Calls Tryz.prog 49 #[netV ip b lo hi] w fun e w' => e = .returned (textV ip b lo hi) ∧ Below w.heap.size w w' := by
  have HT := hide ht
  clear ht
  by_cases hf : faultOf ip b lo hi = 0
  · obtain ⟨⟨hb0, hb32⟩, ⟨hl0, hlh, hh6⟩, _⟩ := fault_ok hf
    obtain ⟨b, rfl⟩ : ∃ k : Nat, b = k := ⟨b.toNat, by omega⟩
    obtain ⟨lo, rfl⟩ : ∃ k : Nat, lo = k := ⟨lo.toNat, by omega⟩
    obtain ⟨hi, rfl⟩ : ∃ k : Nat, hi = k := ⟨hi.toNat, by omega⟩
    have HV := hide (show textV ip b lo hi = .tuple #[.string ⟨(netText ip b lo hi).toArray⟩, .nilIface] by unfold textV; rw [if_pos hf, hf]; rfl)
    have HE := hide (show errV (faultOf ip b lo hi) = .nilIface by rw [hf]; rfl)
    clear hf
    go_enter Tryz.func49, Tryz.ntmps49
    go_wp2_with (first
      | (go_at_call 35; refine (acheck_any ip hip b lo hi hb hl hh _).mono ?_; rw [HE.out]; rintro e W ⟨rfl, hW⟩; have hW2 : Below (w.heap.size + 1) (w.alloc (.cells #[.int .u32 ip, .int .i64 b, .int .i64 lo, .int .i64 hi] 58)) W := hW.mono (by simp); obtain ⟨h0, h1, h2, h3⟩ := box_cells hW2; have HW := hide (show Below w.heap.size w W from ((Below.refl w.heap.size w).alloc (Nat.le_refl _) _).trans (hW.mono (by simp))); clear hW hW2)
      | (go_at_call 62; refine (numbers_any ip b lo hi hip _).mono ?_; rintro e W2 ⟨rfl, hW2⟩; have HW2 := hide (HW.out.trans (hW2.mono HW.out.size)); clear hW2 HW h0 h1 h2 h3; refine Hid.out ?_))
    refine hide ?_
    obtain ⟨ns, hns⟩ : ∃ ns, ns = netNums ip b lo hi := ⟨_, rfl⟩
    rw [← hns]
    have HNS := hide hns
    clear hns
    go_wp2_with (refine wpList_store_row rfl 123 _ _ rfl W2.heap.size (padN ns) rfl rfl 123 (padN []) (heap_alloc_new _ _) size_arr7 rfl (padN_one ns) ?_; rw [World.setRow_alloc_new]; refine Hid.out ?_)
    refine hide ?_
    obtain ⟨L, hL⟩ : ∃ L, L = W2.heap.size := ⟨_, rfl⟩
    have hTX : TX w L ns (W2.alloc (.cells (padN ns) 123)) := ⟨HW2.out.alloc (HW2.out.size) _, by rw [hL]; exact heap_alloc_new _ _, tab_on HT.out (HW2.out.alloc (HW2.out.size) _)⟩
    rw [← hL]
    clear hL
    refine wpList_forget (TX w L ns) hTX ?_
    clear hTX
    intro X hX
    have hlen : ns.length = 7 := by rw [HNS.out]; rfl
    have hbound : ∀ k, ns.getD k 0 < 100000 := fun k => getD_lt (fun n hn => by
      rw [HNS.out] at hn
      simp only [netNums, List.mem_cons, List.not_mem_nil, or_false] at hn
      omega) k
    obtain ⟨n0, h0⟩ : ∃ n, n = ns.getD 0 0 := ⟨_, rfl⟩
    have l0 := hbound 0
    have c0 := hX.cell 0 (by omega)
    rw [← h0] at l0 c0
    have H0 := hide h0
    clear h0
    have HX := hide hX
    clear hX
    go_wp2_with (go_at_call 36; refine (itoa_any n0 (by omega) _ HX.out.2.2).mono ?_; rintro e X1 ⟨rfl, hX1⟩; have HX1 := hide (HX.out.on hX1); clear hX1 HX c0; refine Hid.out ?_)
    refine hide ?_
    rw [show Lib.decDigits n0 = textK ns 0 by rw [textK_zero ns hlen, H0.out]]
    go_wp2
    go_loopw [18, 6] (fun i x w' => ∃ k : Nat, k ≤ 6 ∧ i = .int .i64 k ∧ (∃ t : ByteArray, x = .string t ∧ t.size ≤ 100 ∧ Hid (t = ⟨(textK ns k).toArray⟩)) ∧ Hid (TX w L ns w')) (fun i _ _ => 6 - (intOf i).toNat)
    case atStart => exact ⟨0, by omega, rfl, ⟨_, rfl, by have := textK_len ns hlen hbound 0 (by omega); simp [ByteArray.size]; omega, hide rfl⟩, HX1⟩
    case round =>
      obtain ⟨k, hk, rfl, ⟨tk, rfl, ltk, HTK⟩, HX⟩ := hrel
      by_cases hlt : k < 6
      · obtain ⟨nk, hnk⟩ : ∃ n, n = ns.getD (k + 1) 0 := ⟨_, rfl⟩
        have lk := hbound (k + 1)
        have ck := HX.out.cell (k + 1) (by omega)
        rw [← hnk] at lk ck
        have HK := hide hnk
        have HS := hide (textK_succ ns hlen k hlt)
        clear hnk
        have i1 : (0 : Int) ≤ k := by omega
        have i2 : (k : Int) ≤ k + 1 := by omega
        have i3 : (k : Int) + 1 ≤ 6 := by omega
        have i4 : (0 : Int) ≤ (k : Int) + 1 := by omega
        have i5 : (k : Int) + 1 < 7 := by omega
        obtain ⟨dk, hdk⟩ : ∃ d : ByteArray, d = ⟨(Lib.decDigits nk).toArray⟩ := ⟨_, rfl⟩
        have ldk : dk.size ≤ 5 := by have := nDigits_le5 nk lk; rw [← Lib.decDigits_length] at this; rw [hdk]; simpa [ByteArray.size] using this
        have HDK := hide hdk
        clear hdk
        have HI := fun X hT => (itoa_any nk (by omega) X hT).mono fun e w' h => (by rw [← HDK.out] at h; exact h : e = .returned (.string dk) ∧ Below X.heap.size X w')
        obtain ⟨sx, hsx⟩ : ∃ x : ByteArray, x = ⟨#[signsL.getD k 0]⟩ := ⟨_, rfl⟩
        have lsx : sx.size = 1 := by rw [hsx]; rfl
        have hsl : ∀ W, (Instr.slice 9 (.string ⟨#[46, 46, 46, 47, 58, 45]⟩) (some (.int .i64 (k : Int))) (some (.int .i64 ((k : Int) + 1))) none).run Tryz.prog W = .ok (.string sx) W := fun W => by
          rw [run_slice_string W 9 _ .i64 .i64 k (k + 1) Tryz.underlying9 i1 i2 (by exact i3), show ((k : Int) + 1).toNat = k + 1 by omega, Int.toNat_natCast, signs_extract k hlt, hsx]
        have HSX := hide hsx
        clear hsx
        have hw1 : IntKind.i64.wrap ((k : Int) + 1) = (k : Int) + 1 := by rw [IntKind.wrap_i64]; omega
        have cI : ∀ d os, Calls Tryz.prog 36 #[.int .i64 nk] (grow (redrawn wr d) os) fun e w'' => e = .returned (.string dk) ∧ ∃ p : Regrown, w'' = grow (redrawn wr p.d) p.os := fun d os => Calls.regrown_of (HI _ (HX.out.on (below_regrown _ _ _)).2.2)
        have ckr := cell_regrown ck
        have z1 : ¬ 9223372036854775807 < 1 + dk.size := by omega
        have z2 : ¬ 9223372036854775807 < tk.size + (1 + dk.size) := by omega
        go_wp2
        refine wp_region_quiet_below (by kernel_rfl) (by kernel_rfl) ?_
        repeat (quiet_step (exact cI _ _))
        refine wpQuiet_nil ?_
        intro _ hw'
        obtain ⟨⟨dq, osq⟩, hw''⟩ := hw'
        subst hw''
        go_wp2
        go_round
        case rel =>
          refine ⟨k + 1, by omega, by go_num, ⟨_, rfl, ?_, ?_⟩, hide (HX.out.on (below_regrown _ _ _))⟩
          · have h1 := textK_len ns hlen hbound (k + 1) (by omega)
            rw [HS.out, List.length_append, List.length_cons] at h1
            have h2 : tk.size = (textK ns k).length := by rw [HTK.out]; simp [ByteArray.size]
            have h3 : dk.size = (Lib.decDigits nk).length := by rw [HDK.out]; simp [ByteArray.size]
            rw [← HK.out] at h1
            rw [ByteArray.size_append, ByteArray.size_append]
            omega
          · refine hide ?_
            rw [HS.out, HTK.out, HSX.out, HDK.out, HK.out]
            apply ByteArray.ext
            simp [ByteArray.data_append]
        case measure => simp [intOf]; omega
      · obtain rfl : k = 6 := by omega
        go_wp2
        go_ret2
        exact ⟨by rw [HV.out, ← textK_all HNS.out, ← HTK.out]; rfl, HX.out.1⟩
  · have HV := hide (show textV ip b lo hi = .tuple #[.string ⟨#[]⟩, .iface 61 (.int .i64 (faultOf ip b lo hi : Nat))] by unfold textV errV; rw [if_neg hf, if_neg hf])
    have HE := hide (show errV (faultOf ip b lo hi) = .iface 61 (.int .i64 (faultOf ip b lo hi : Nat)) by unfold errV; rw [if_neg hf])
    clear hf
    go_enter Tryz.func49, Tryz.ntmps49
    go_wp2_with (go_at_call 35; refine (acheck_any ip hip b lo hi hb hl hh _).mono ?_; rw [HE.out]; rintro e W ⟨rfl, hW⟩)
    go_ret2
    exact ⟨by rw [HV.out]; rfl, ((Below.refl w.heap.size w).alloc (Nat.le_refl _) _).trans (hW.mono (by simp))⟩
end Go.Proofs.YtbifjokfnahiaabGreatDoor
