/- Get. -/
import Derived.Test.YtlpcjonklfnejaaMSeal
import Derived.Laws.MakeOwn
namespace Go.Proofs.Ytlpcjonklfnejaa
open Go.RowKit

/-- What may be read at an address. -/
def peek (m : MS) (a : Nat) : Option Nat := if a < 768 ∧ m.rd (a / 64) = true then some (m.byte a) else none
def byteV : Option Nat → Value
  | none => .tuple #[.int .u8 0, .iface 98 (.int .i64 5)]
  | some x => .tuple #[.int .u8 x, .nilIface]
theorem byte_any (B : MB) (m : MS) (k a : Nat) (ha : a < 18446744073709551616) :
    Calls Try.prog 35 #[.pointer (some ⟨B.g, 0, none⟩), .int .u64 a] (PW B m k) fun e w' => e = .returned (byteV (peek m a)) ∧ w' = PW B m k := by
  unfold peek
  by_cases h : a < 768
  · cases hr : m.rd (a / 64) with
    | false => rw [if_neg (by rintro ⟨_, h2⟩; cases h2)]; exact byte_no B m k a h hr
    | true => rw [if_pos ⟨h, rfl⟩]; exact byte_ok B m k a h hr
  · rw [if_neg (fun e => h e.1)]
    exact byte_out B m k a (by omega) ha

theorem get_bad (B : MB) (m : MS) (k : Nat) (a n : Int) (hn : n < 0 ∨ 512 < n) :
    Calls Try.prog 27 #[.pointer (some ⟨B.g, 0, none⟩), .int .u64 a, .int .i64 n] (PW B m k) fun e w' => e = .returned (.tuple #[.string ⟨#[]⟩, .iface 98 (.int .i64 1)]) ∧ w' = PW B m k := by
  by_cases h0 : n < 0
  · go_enter Try.func27, Try.ntmps27
    go_wp2
    go_ret2
    exact ⟨rfl, rfl⟩
  · go_enter Try.func27, Try.ntmps27
    go_wp2
    go_ret2
    exact ⟨rfl, rfl⟩

theorem info_u8 : ∃ i, Try.prog.info? 5 = some i ∧ i.zero = some (.int .u8 0) ∧ i.size = 1 ∧ i.bytes = 1 := by
  have hz : (Try.prog.info? 5).map (·.zero) = some (some (.int .u8 0)) := by kernel_rfl
  have hs : (Try.prog.info? 5).map (·.size) = some 1 := by kernel_rfl
  have hb : (Try.prog.info? 5).map (·.bytes) = some 1 := by kernel_rfl
  cases hq : Try.prog.info? 5 with
  | none => rw [hq] at hs; simp at hs
  | some i =>
    rw [hq] at hz hs hb
    simp at hz hs hb
    exact ⟨i, rfl, hz, hs, hb⟩
theorem made_VA (n : Nat) : madeCells (Value.int .u8 0).cells n = VA n fun _ => .int .u8 0 := by
  apply Array.ext_getElem?
  intro i
  by_cases h : i < n
  · rw [VA_get n _ i h]
    simp [madeCells, Value.cells, h, Nat.mod_one]
  · have e1 : (madeCells (Value.int .u8 0).cells n)[i]? = none := by simp [size_madeCells]; omega
    rw [e1, VA_none n _ i h]
/-- 'make([]byte, n)'. -/
theorem wpList_make_bytes {ops : Array Oper} {rest : List Oper} {o : Oper} {a : Act} {w : World} {Q : Exit → Act → World → Prop} (hgd : o.guard = none) (x y : Operand) (ho : o.op = .makeSlice 120 x y) (n : Nat)
    (hx : a.eval x = .int .i64 n) (hy : a.eval y = .int .i64 n) (hn : n ≤ 10000)
    (h : wpList Try.prog ops Q rest (a.put o.dst (.slice (some ⟨w.heap.size, 0, none⟩) n n)) (w.alloc (.cells (VA n fun _ => .int .u8 0) 5))) : wpList Try.prog ops Q (o :: rest) a w := by
  obtain ⟨i, hi, hz, hs, hb⟩ := info_u8
  have hr := run_make (P := Try.prog) w 120 5 i _ Try.underlying120 hi hz .i64 .i64 (n : Int) (n : Int) (by omega) (by omega) (by rw [hb]; omega) (by omega)
  rw [hs, Int.toNat_natCast, Nat.mul_one, made_VA] at hr
  refine wpList_plain hgd fun _ hK => ?_
  unfold Oper.wp execOp
  simp only [ho, hx, hy, Sem.run_bind, hr, Result.andThen_ok]
  exact hK _ _ h

/-- The i-th address from a on. -/
def addrI (a i : Nat) : Nat := (a + i) % 18446744073709551616
/-- n bytes from a on, if each may be read. -/
def getR (m : MS) (a : Nat) : Nat → Option (List Nat)
  | 0 => some []
  | n + 1 => (getR m a n).bind fun l => (peek m (addrI a n)).map fun x => l ++ [x]

theorem byte_isM {g : Nat} {m : MS} {W : World} (h : IsM g m W) (a : Nat) (ha : a < 18446744073709551616) :
    Calls Try.prog 35 #[.pointer (some ⟨g, 0, none⟩), .int .u64 a] W fun e w' => e = .returned (byteV (peek m a)) ∧ w' = W := by
  have hb := byte_any ⟨W, g, m, h⟩ m 0 a ha
  rw [← PW_of h] at hb
  exact hb

/-- The world with a row of bytes of the call's own. -/
def GW (W : World) (n : Nat) (f : Nat → Value) : World := W.alloc (.cells (VA n f) 5)
theorem GW_heap (W : World) (n : Nat) (f : Nat → Value) : (GW W n f).heap[W.heap.size]? = some (.cells (VA n f) 5 (0, 0)) := heap_alloc_new W _
theorem GW_isM {g : Nat} {m : MS} {W : World} (h : IsM g m W) (n : Nat) (f : Nat → Value) : IsM g m (GW W n f) := (heap_alloc_old W _ (h := (Array.getElem?_eq_some_iff.1 h).1)).trans h
theorem GW_cell (W : World) (n : Nat) (f : Nat → Value) (i : Nat) (hi : i < n) : (GW W n f).cell? ⟨W.heap.size, i, none⟩ = some (f i) := by
  rw [cell_of_row _ _ i _ _ _ (GW_heap W n f), VA_get n f i hi]
theorem GW_fro (W : World) (n : Nat) (f : Nat → Value) (i : Nat) : (GW W n f).frozen? ⟨W.heap.size, i, none⟩ = false := frozen_of_row _ _ i _ _ (GW_heap W n f)
theorem GW_set (W : World) (n : Nat) (f : Nat → Value) (i : Nat) (v : Value) : (GW W n f).setCell ⟨W.heap.size, i, none⟩ v = GW W n (updV f i v) := by
  rw [setCell_eq_setRow _ _ i _ _ _ _ (GW_heap W n f), VA_set]
  exact World.setRow_alloc_new W _ _ _
theorem GW_below (W : World) (n : Nat) (f : Nat → Value) : Below W.heap.size W (GW W n f) := (Below.refl _ _).alloc (Nat.le_refl _) _

/-- The row, the numbers l written, noughts behind. -/
def rowL (l : List Nat) : Nat → Value := fun j => .int .u8 (l.getD j 0)
theorem rowL_snoc (l : List Nat) (x : Nat) : updV (rowL l) l.length (.int .u8 x) = rowL (l ++ [x]) := by
  funext j
  unfold updV rowL
  rw [List.getD_eq_getElem?_getD, List.getD_eq_getElem?_getD, List.getElem?_append]
  by_cases h : j = l.length
  · subst h; simp
  · rw [if_neg h]
    by_cases h2 : j < l.length
    · rw [if_pos h2]
    · rw [if_neg h2, List.getElem?_eq_none (by omega), List.getElem?_eq_none (by simp; omega)]

def bytesOf (l : List Nat) : List UInt8 := l.map UInt8.ofNat
def getV : Option (List Nat) → Value
  | none => .tuple #[.string ⟨#[]⟩, .iface 98 (.int .i64 5)]
  | some l => .tuple #[.string ⟨(bytesOf l).toArray⟩, .nilIface]

theorem getR_len {m : MS} {a : Nat} : ∀ {n : Nat} {l : List Nat}, getR m a n = some l → l.length = n
  | 0, l, h => by rw [← Option.some.inj h]; rfl
  | n + 1, l, h => by
    rw [getR, Option.bind_eq_some_iff] at h
    obtain ⟨l', h1, h2⟩ := h
    rw [Option.map_eq_some_iff] at h2
    obtain ⟨x, _, rfl⟩ := h2
    rw [List.length_append, getR_len h1]
    rfl
theorem getR_none {m : MS} {a i : Nat} (h : getR m a i = none) : ∀ n, i ≤ n → getR m a n = none
  | 0, hn => by rw [show i = 0 by omega] at h; exact h
  | n + 1, hn => by
    by_cases he : i = n + 1
    · rw [← he]; exact h
    · rw [getR, getR_none h n (by omega)]; rfl

theorem getR_lt {m : MS} (hlt : ∀ x, m.byte x < 256) {a : Nat} : ∀ {n : Nat} {l : List Nat}, getR m a n = some l → ∀ x ∈ l, x < 256
  | 0, l, h => by rw [← Option.some.inj h]; intro x hx; cases hx
  | n + 1, l, h => by
    rw [getR, Option.bind_eq_some_iff] at h
    obtain ⟨l', h1, h2⟩ := h
    rw [Option.map_eq_some_iff] at h2
    obtain ⟨y, hy, rfl⟩ := h2
    intro x hx
    rcases List.mem_append.1 hx with h3 | h3
    · exact getR_lt hlt h1 x h3
    · rw [List.mem_singleton.1 h3]
      unfold peek at hy
      split at hy
      · rw [← Option.some.inj hy]; exact hlt _
      · cases hy
theorem bytesOf_get (l : List Nat) (j : Nat) (h1 : j < (bytesOf l).length) (h2 : j < l.length) : (bytesOf l)[j] = UInt8.ofNat l[j] := by simp [bytesOf]
theorem conv_row (W : World) (l : List Nat) (hl : ∀ x ∈ l, x < 256) : (convert 120 9 (.slice (some ⟨W.heap.size, 0, none⟩) l.length l.length)).run Try.prog (GW W l.length (rowL l)) = .ok (.string ⟨(bytesOf l).toArray⟩) (GW W l.length (rowL l)) := by
  have hb : (bytesOf l).length = l.length := by unfold bytesOf; rw [List.length_map]
  have h := run_convert_bytes_back (P := Try.prog) (GW W l.length (rowL l)) 120 9 5 ⟨W.heap.size, 0, none⟩ l.length (bytesOf l) Try.underlying120 Try.underlying5 Try.underlying9 fun j hj => by
    have hj' : j < l.length := by rw [hb] at hj; exact hj
    rw [show (⟨W.heap.size, 0, none⟩ : Addr).add j = ⟨W.heap.size, j, none⟩ by simp [Addr.add]; omega, GW_cell W _ _ j hj']
    unfold rowL
    rw [bytesOf_get l j hj hj', List.getD_eq_getElem?_getD, List.getElem?_eq_getElem hj']
    have hx := hl _ (List.getElem_mem hj')
    rw [Option.getD_some, UInt8.toNat_ofNat', Nat.mod_eq_of_lt (show l[j] < 2 ^ 8 from hx)]
  rw [hb] at h
  exact h

theorem get_any {g : Nat} {m : MS} {W : World} (hM : IsM g m W) (a n : Nat) (ha : a < 18446744073709551616) (hn : n ≤ 512) (hlt : ∀ x, m.byte x < 256) :
    Calls Try.prog 27 #[.pointer (some ⟨g, 0, none⟩), .int .u64 a, .int .i64 n] W fun e w' => e = .returned (getV (getR m a n)) ∧ Below W.heap.size W w' := by
  have HA := hide ha
  have HLT := hide hlt
  have HM := hide hM
  clear ha hlt hM
  obtain ⟨ai, hai⟩ : ∃ x : Int, x = (a : Int) := ⟨_, rfl⟩
  rw [← hai]
  have HAI := hide hai
  clear hai
  go_enter Try.func27, Try.ntmps27
  go_wp2_with (refine wpList_make_bytes rfl _ _ rfl n ?_ ?_ (by omega) ?_; (· rfl); (· rfl))
  go_loopw [22] (fun I w' => ∃ (i : Nat) (l : List Nat), i ≤ n ∧ I = .int .i64 i ∧ l.length = i ∧ w' = GW W n (rowL l) ∧ Hid (getR m a i = some l)) (fun I _ => n - (intOf I).toNat)
  case atStart => exact ⟨0, [], by omega, rfl, rfl, rfl, hide rfl⟩
  case round =>
    obtain ⟨i, l, hi, rfl, hll, rfl, HG⟩ := hrel
    by_cases hlt : i < n
    · obtain ⟨x, hx⟩ : ∃ x : Int, x = ((addrI a i : Nat) : Int) := ⟨_, rfl⟩
      have hw : IntKind.u64.wrap (ai + i) = x := by
        rw [IntKind.wrap_u64, HAI.out, hx]
        unfold addrI
        omega
      have HC := byte_isM (GW_isM HM.out n (rowL l)) (addrI a i) (Nat.mod_lt _ (by decide))
      rw [← hx] at HC
      have HG2 := hide (show getR m a (i + 1) = (peek m (addrI a i)).map fun x => l ++ [x] by rw [getR, HG.out]; rfl)
      clear hx
      cases hp : peek m (addrI a i) with
      | none =>
        have HV := hide (show getR m a n = none from getR_none (by rw [HG2.out, hp]; rfl) n (show i + 1 ≤ n by omega))
        rw [hp] at HC
        simp only [byteV] at HC
        go_wp2_with (go_at_call 35; refine HC.mono ?_; rintro e w' ⟨rfl, hww⟩; rw [hww]; clear hww w')
        go_ret2
        exact ⟨by rw [HV.out]; rfl, GW_below _ _ _⟩
      | some y =>
        rw [hp] at HC HG2
        simp only [byteV] at HC
        have c1 := GW_cell W n (rowL l) i hlt
        have c2 := GW_fro W n (rowL l)
        have c3 := GW_set W n (rowL l) i (.int .u8 y)
        go_wp2_with (go_at_call 35; refine HC.mono ?_; rintro e w' ⟨rfl, hww⟩; rw [hww]; clear hww w')
        go_round
        case rel => exact ⟨i + 1, l ++ [y], by omega, by go_num, by rw [List.length_append, hll]; rfl, by rw [← rowL_snoc, hll], HG2⟩
        case measure => simp [intOf]; omega
    · obtain rfl : i = n := by omega
      have hcv := conv_row W l (fun x hx => getR_lt HLT.out HG.out x hx)
      rw [hll] at hcv
      go_wp2
      go_ret2
      exact ⟨by rw [HG.out]; rfl, GW_below _ _ _⟩
end Go.Proofs.Ytlpcjonklfnejaa
