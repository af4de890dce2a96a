/- The walk of the law TopMem. -/
import Derived.Test.YtlpcjonklfnejaaMTouch
namespace Go.Proofs.Ytlpcjonklfnejaa
open Go.RowKit

theorem PW_below (B : MB) (m : MS) (k n : Nat) (hn : n ≤ B.g) : Below n B.W (PW B m k) := by
  refine ⟨rfl, rfl, rfl, ?_, fun j hj => ?_⟩
  · show B.W.heap.size ≤ (B.W.heap.modify _ _).size
    rw [Array.size_modify]; exact Nat.le_refl _
  · show (B.W.heap.modify _ _)[j]? = _
    rw [Array.getElem?_modify, if_neg (by omega)]
theorem fine_zero : Fine zeroM := ⟨bytesOk_zero, fun _ _ _ => rfl⟩
theorem fine_seal {m : MS} (h : Fine m) (q : Nat) (l : List UInt8) : Fine (sealM m q l) := ⟨bytesOk_write (m := setRd m q true) h.bytes _ _, h.wt⟩
theorem getR_of {m : MS} {a : Nat} {l : List Nat} : ∀ n, n ≤ l.length → (∀ i, i < n → peek m (addrI a i) = some (l.getD i 0)) → getR m a n = some (l.take n)
  | 0, _, _ => by rw [getR, List.take_zero]
  | n + 1, hl, h => by
    rw [getR, getR_of n (by omega) fun i hi => h i (by omega), Option.bind_some, h n (by omega), Option.map_some, List.take_add_one, List.getD_eq_getElem?_getD, List.getElem?_eq_getElem (show n < l.length by omega)]
    rfl
theorem bytesOf_toNat (l : List UInt8) : bytesOf (l.map UInt8.toNat) = l := by
  unfold bytesOf
  rw [List.map_map]
  conv => rhs; rw [← List.map_id l]
  exact List.map_congr_left fun x _ => by simp
/-- What is sealed is read. -/
theorem get_sealed {m : MS} {q : Nat} {l : List UInt8} (hq : q < 12) (hl : l.length ≤ 64) (hr : m.rd q = true) (hb : ∀ i, i < l.length → m.byte (q * 64 + i) = (l.getD i 0).toNat) : getR m (q * 64) l.length = some (l.map UInt8.toNat) := by
  have h := getR_of (m := m) (a := q * 64) (l := l.map UInt8.toNat) l.length (by simp) fun i hi => by
    unfold peek addrI
    rw [Nat.mod_eq_of_lt (by omega), if_pos ⟨by omega, by rw [show (q * 64 + i) / 64 = q by omega]; exact hr⟩, hb i hi]
    congr 1
    rw [List.getD_eq_getElem?_getD, List.getD_eq_getElem?_getD, List.getElem?_map]
    cases l[i]? <;> rfl
  rw [h, List.take_of_length_le (by simp)]
theorem seal_byte (m : MS) (q : Nat) (l : List UInt8) (i : Nat) (hi : i < l.length) : (sealM m q l).byte (q * 64 + i) = (l.getD i 0).toNat := by
  show (if q * 64 ≤ q * 64 + i ∧ q * 64 + i < q * 64 + l.length then (l.getD (q * 64 + i - q * 64) 0).toNat else _) = _
  rw [if_pos (by omega), show q * 64 + i - q * 64 = i by omega]
theorem seal_other (m : MS) (q x : Nat) (l : List UInt8) (hx : x < q * 64) : (sealM m q l).byte x = m.byte x := by
  show (if q * 64 ≤ x ∧ x < q * 64 + l.length then _ else _) = _
  rw [if_neg (by omega)]
  rfl
theorem seal_rd (m : MS) (q n : Nat) (l : List UInt8) : (sealM m q l).rd n = if n = q then true else m.rd n := rfl
theorem drop_rd (m : MS) (q n : Nat) : (dropM m q).rd n = if n = q then false else m.rd n := rfl

/-- All that TopMem asks of memory, of the two pages that were sealed. -/
theorem top_mem_facts {m1 m4 : MS} (h1 : high zeroM m1) (s t : List UInt8) (hs : s.length ≤ 64) (ht : t.length ≤ 64) (h4 : high (sealM (sealM m1 8 s) 9 t) m4) :
    getR m4 512 s.length = some (s.map UInt8.toNat) ∧ getR m4 576 t.length = some (t.map UInt8.toNat) ∧ cntM m4 4 = 2 ∧ m4.rd 8 = true ∧ m4.rd 9 = true ∧ m4.rd 10 = false ∧ m4.rd 11 = false ∧ cntM (dropM m4 8) 4 = 1 := by
  have r8 : m4.rd 8 = true := (h4.1 8 (by omega)).1.trans rfl
  have r9 : m4.rd 9 = true := (h4.1 9 (by omega)).1.trans rfl
  have r10 : m4.rd 10 = false := ((h4.1 10 (by omega)).1.trans rfl).trans (h1.1 10 (by omega)).1
  have r11 : m4.rd 11 = false := ((h4.1 11 (by omega)).1.trans rfl).trans (h1.1 11 (by omega)).1
  refine ⟨?_, ?_, ?_, r8, r9, r10, r11, ?_⟩
  · refine get_sealed (q := 8) (by omega) hs r8 fun i hi => ?_
    rw [h4.2 _ (by omega), seal_other _ 9 _ _ (by omega)]
    exact seal_byte m1 8 s i hi
  · refine get_sealed (q := 9) (by omega) ht r9 fun i hi => ?_
    rw [h4.2 _ (by omega)]
    exact seal_byte _ 9 t i hi
  · simp [cntM, r8, r9, r10, r11]
  · simp [cntM, drop_rd, r9, r10, r11]

theorem IsM.lt {g : Nat} {m : MS} {W : World} (h : IsM g m W) : g < W.heap.size := (Array.getElem?_eq_some_iff.1 h).1
theorem IsActs.old {oa : Option Addr} {n : Nat} {L : Nat → AC} {W : World} (h : IsActs oa n L W) : 0 < n → ∀ b off, oa = some ⟨b, off, none⟩ → b < W.heap.size := fun h0 b off e => by
  obtain ⟨b', off', h1, h2, _⟩ := h.lie h0
  rw [h1] at e
  obtain rfl : b' = b := congrArg Addr.block (Option.some.inj e)
  exact h2
theorem IsActs.onB {oa : Option Addr} {n : Nat} {L : Nat → AC} {W V : World} (h : IsActs oa n L W) {g : Nat} (hb : Below g W V) (ho : 0 < n → ∀ b off, oa = some ⟨b, off, none⟩ → b < g) : IsActs oa n L V :=
  ⟨fun h0 => by
    obtain ⟨b, off, h1, h2, h3⟩ := h.lie h0
    exact ⟨b, off, h1, Nat.lt_of_lt_of_le h2 hb.size, fun i hi => (h3 i hi).on fun j => hb.cell (p := ⟨b, j, none⟩) (ho h0 b off h1)⟩⟩
theorem touch_isM {g : Nat} {m : MS} {W : World} (h : IsM g m W) (hf : Fine m) (oa : Option Addr) (n cap : Nat) (hn : n ≤ 100) (L : Nat → AC) (hA : IsActs oa n L W) (hg : 0 < n → ∀ b off, oa = some ⟨b, off, none⟩ → b < g) (hs : ∀ i, i < n → (L i).s.size ≤ 200) :
    Calls Try.prog 39 #[.pointer (some ⟨g, 0, none⟩), .slice oa n cap] W fun e w' => e = .returned (.tuple #[]) ∧ ∃ m', IsM g m' w' ∧ Below g W w' ∧ high m m' ∧ Fine m' := by
  have hc := touch_any ⟨W, g, m, h⟩ m 0 hf oa n cap hn L hA hg hs
  rw [← PW_of h] at hc
  exact hc.mono fun e w' ⟨he, m', k', hw, h1, h2⟩ => ⟨he, m', by rw [hw]; exact PW_isM _ _ _, by rw [hw]; exact PW_below ⟨W, g, m, h⟩ _ _ _ (Nat.le_refl _), h1, h2⟩
theorem seal_isM {g : Nat} {m : MS} {W : World} (h : IsM g m W) (q : Nat) (s : ByteArray) (hs : s.size ≤ 64) (hq8 : 8 ≤ q) (hq : q < 12) (hbef : ∀ n, 8 ≤ n → n < q → m.rd n = true) (hrq : m.rd q = false) :
    Calls Try.prog 31 #[.pointer (some ⟨g, 0, none⟩), .string s] W fun e w' => e = .returned (.tuple #[.int .u64 ((q * 64 : Nat) : Int), .nilIface]) ∧ IsM g (sealM m q s.data.toList) w' ∧ Below g W w' := by
  have hc := seal_ok ⟨W, g, m, h⟩ m 0 q s hs hq8 hq hbef hrq
  rw [← PW_of h] at hc
  exact hc.mono fun e w' ⟨he, k', hw⟩ => ⟨he, by rw [hw]; exact PW_isM _ _ _, by rw [hw]; exact PW_below ⟨W, g, m, h⟩ _ _ _ (Nat.le_refl _)⟩
theorem sealed_isM {g : Nat} {m : MS} {W : World} (h : IsM g m W) :
    Calls Try.prog 40 #[.pointer (some ⟨g, 0, none⟩)] W fun e w' => e = .returned (.int .i64 (cntM m 4)) ∧ IsM g m w' ∧ Below g W w' := by
  have hc := sealed_any ⟨W, g, m, h⟩ m 0
  rw [← PW_of h] at hc
  exact hc.mono fun e w' ⟨he, k', hw⟩ => ⟨he, by rw [hw]; exact PW_isM _ _ _, by rw [hw]; exact PW_below ⟨W, g, m, h⟩ _ _ _ (Nat.le_refl _)⟩
theorem free_isM {g : Nat} {m : MS} {W : World} (h : IsM g m W) (q : Nat) (hq8 : 8 ≤ q) (hq : q < 12) (hrq : m.rd q = true) :
    Calls Try.prog 33 #[.pointer (some ⟨g, 0, none⟩), .int .u64 ((q * 64 : Nat) : Int)] W fun e w' => e = .returned .nilIface ∧ IsM g (dropM m q) w' ∧ Below g W w' := by
  have hc := free_ok ⟨W, g, m, h⟩ m 0 q hq8 hq hrq
  rw [← PW_of h] at hc
  exact hc.mono fun e w' ⟨he, k', hw⟩ => ⟨he, by rw [hw]; exact PW_isM _ _ _, by rw [hw]; exact PW_below ⟨W, g, m, h⟩ _ _ _ (Nat.le_refl _)⟩
theorem free_none_isM {g : Nat} {m : MS} {W : World} (h : IsM g m W) (a : Int) (hno : ∀ n, 8 ≤ n → n < 12 → m.rd n = true → (a ≠ (n * 64 : Nat))) :
    Calls Try.prog 33 #[.pointer (some ⟨g, 0, none⟩), .int .u64 a] W fun e w' => e = .returned (.iface 98 (.int .i64 8)) ∧ IsM g m w' ∧ Below g W w' := by
  have hc := free_none ⟨W, g, m, h⟩ m 0 a hno
  rw [← PW_of h] at hc
  exact hc.mono fun e w' ⟨he, k', hw⟩ => ⟨he, by rw [hw]; exact PW_isM _ _ _, by rw [hw]; exact PW_below ⟨W, g, m, h⟩ _ _ _ (Nat.le_refl _)⟩

/-- Light acts, where there is nothing to say. -/
theorem topMem_heavy (oa ob : Option Addr) (n na q nb : Nat) (hn : n ≤ 9223372036854775807) (hq : q ≤ 9223372036854775807) (L M : Nat → AC) (s t : ByteArray) (hs : s.size ≤ 9223372036854775807) (ht : t.size ≤ 9223372036854775807) (w : World) (hA : IsActs oa n L w) (hB : IsActs ob q M w)
    (hx : lightR n L 30 = false ∨ lightR q M 30 = false ∨ 64 < s.size ∨ 64 < t.size) :
    Calls Try.prog 6 #[.slice oa n na, .string s, .string t, .slice ob q nb] w fun e w' => e = .returned (.bool true) ∧ Below w.heap.size w w' := by
  have H1 := light_any oa n na hn L 30 w hA
  have H2 := light_any ob q nb hq M 30 w hB
  clear hA hB
  cases h1 : lightR n L 30 with
  | false =>
    rw [h1] at H1
    go_enter Try.func6, Try.ntmps6
    go_wp2_with fail
    refine H1.mono ?_
    rintro e w' ⟨rfl, rfl⟩
    go_wp2
    go_ret
    exact ⟨rfl, Below.refl _ _⟩
  | true =>
    rw [h1] at H1
    cases h2 : lightR q M 30 with
    | false =>
      rw [h2] at H2
      go_enter Try.func6, Try.ntmps6
      go_wp2_with fail
      refine H1.mono ?_
      rintro e w' ⟨rfl, rfl⟩
      go_wp2_with fail
      refine H2.mono ?_
      rintro e w' ⟨rfl, rfl⟩
      go_wp2
      go_ret
      exact ⟨rfl, Below.refl _ _⟩
    | true =>
      rw [h2] at H2
      by_cases h3 : 64 < s.size
      · have d3 : decide ((64 : Int) < (s.size : Int)) = true := by simp; omega
        go_enter Try.func6, Try.ntmps6
        go_wp2_with fail
        refine H1.mono ?_
        rintro e w' ⟨rfl, rfl⟩
        go_wp2_with fail
        refine H2.mono ?_
        rintro e w' ⟨rfl, rfl⟩
        go_wp2
        go_ret
        exact ⟨rfl, Below.refl _ _⟩
      · have d3 : decide ((64 : Int) < (s.size : Int)) = false := by simp; omega
        have h4 : 64 < t.size := by rcases hx with h | h | h | h <;> simp_all
        have d4 : decide ((64 : Int) < (t.size : Int)) = true := by simp; omega
        go_enter Try.func6, Try.ntmps6
        go_wp2_with fail
        refine H1.mono ?_
        rintro e w' ⟨rfl, rfl⟩
        go_wp2_with fail
        refine H2.mono ?_
        rintro e w' ⟨rfl, rfl⟩
        go_wp2
        go_ret
        exact ⟨rfl, Below.refl _ _⟩

set_option maxHeartbeats 2000000 in
theorem topMem_light (oa ob : Option Addr) (n na q nb : Nat) (L M : Nat → AC) (s t : ByteArray) (hs : s.size ≤ 64) (ht : t.size ≤ 64) (w : World) (hA : IsActs oa n L w) (hB : IsActs ob q M w)
    (h1 : lightR n L 30 = true) (h2 : lightR q M 30 = true) :
    Calls Try.prog 6 #[.slice oa n na, .string s, .string t, .slice ob q nb] w fun e w' => e = .returned (.bool true) ∧ Below w.heap.size w w' := by
  obtain ⟨l1, l2⟩ := light_spec h1
  obtain ⟨l3, l4⟩ := light_spec h2
  have H1 := light_any oa n na (by omega) L 30 w hA
  have H2 := light_any ob q nb (by omega) M 30 w hB
  rw [h1] at H1
  rw [h2] at H2
  have d3 : decide ((64 : Int) < (s.size : Int)) = false := by simp; omega
  have d4 : decide ((64 : Int) < (t.size : Int)) = false := by simp; omega
  have HA := hide hA
  have HB := hide hB
  have HL := hide l2
  have HM := hide l4
  have HO := hide hA.old
  have HP := hide hB.old
  clear hA hB l2 l4 h1 h2
  go_enter Try.func6, Try.ntmps6
  go_wp2_with fail
  refine H1.mono ?_
  rintro e w' ⟨rfl, rfl⟩
  go_wp2_with fail
  refine H2.mono ?_
  rintro e w' ⟨rfl, rfl⟩
  go_wp2_with fail
  obtain ⟨g, hg⟩ : ∃ g, g = w'.heap.size := ⟨_, rfl⟩
  refine (new_any _).mono ?_
  rw [← hg]
  rintro e w1 ⟨rfl, hb1, hM1⟩
  replace hg := hide hg
  go_wp2_with fail
  refine (touch_isM hM1 fine_zero oa n na (by omega) L (HA.out.onB hb1 (by rw [hg.out]; exact HO.out)) (by rw [hg.out]; exact HO.out) HL.out).mono ?_
  rintro e w2 ⟨rfl, m1, hM2, hb2, HI1, hf2⟩
  replace HI1 := hide HI1
  replace hf2 := hide hf2
  go_wp2_with fail
  refine (seal_isM hM2 8 s hs (by omega) (by omega) (fun n h8 h => by omega) (HI1.out.1 8 (by omega)).1).mono ?_
  rintro e w3 ⟨rfl, hM3, hb3⟩
  go_wp2_with fail
  refine (seal_isM hM3 9 t ht (by omega) (by omega) (fun n h8 h => by rw [show n = 8 by omega]; rfl) (HI1.out.1 9 (by omega)).1).mono ?_
  rintro e w4 ⟨rfl, hM4, hb4⟩
  have HB4 := hide (hb1.trans (hb2.trans (hb3.trans hb4)))
  clear hb1 hb2 hb3 hb4 hM1 hM2 hM3
  go_wp2_with fail
  refine (touch_isM hM4 (fine_seal (fine_seal hf2.out _ _) _ _) ob q nb (by omega) M (HB.out.onB HB4.out (by rw [hg.out]; exact HP.out)) (by rw [hg.out]; exact HP.out) HM.out).mono ?_
  rintro e w5 ⟨rfl, m4, hM5, hb5, HI4, hf5⟩
  obtain ⟨f1, f2, f3, f4, f5, f6, f7, f8⟩ := top_mem_facts HI1.out s.data.toList t.data.toList (by rw [← Lib.size_eq]; exact hs) (by rw [← Lib.size_eq]; exact ht) HI4
  rw [← Lib.size_eq] at f1 f2
  replace f1 := hide f1
  replace f2 := hide f2
  replace f4 := hide (And.intro f4 (And.intro f5 (And.intro f6 f7)))
  clear f5 f6 f7
  replace hf5 := hide hf5
  clear HI4
  have e1 := hide (show getV (some (s.data.toList.map UInt8.toNat)) = .tuple #[.string s, .nilIface] by unfold getV; simp only; rw [bytesOf_toNat])
  have e2 := hide (show getV (some (t.data.toList.map UInt8.toNat)) = .tuple #[.string t, .nilIface] by unfold getV; simp only; rw [bytesOf_toNat])
  go_wp2_with fail
  have C1 := get_any hM5 512 s.size (by omega) (by omega) hf5.out.bytes
  rw [f1.out, e1.out] at C1
  refine C1.mono ?_
  clear C1
  rintro e w6 ⟨rfl, hb6⟩
  have hM6 := hM5.on hb6
  replace hb6 := hb6.mono (Nat.le_of_lt hM5.lt)
  go_wp2_with fail
  have C2 := get_any hM6 576 t.size (by omega) (by omega) hf5.out.bytes
  rw [f2.out, e2.out] at C2
  refine C2.mono ?_
  clear C2
  rintro e w7 ⟨rfl, hb7⟩
  have hM7 := hM6.on hb7
  replace hb7 := hb7.mono (Nat.le_of_lt hM6.lt)
  have HB7 := hide (HB4.out.trans (hb5.trans (hb6.trans hb7)))
  clear hb5 hb6 hb7 hM4 hM5 hM6
  go_wp2_with fail
  have C3 := sealed_isM hM7
  rw [f3] at C3
  refine C3.mono ?_
  clear C3
  rintro e w8 ⟨rfl, hM8, hb8⟩
  go_wp2_with fail
  refine (free_isM hM8 8 (by omega) (by omega) f4.out.1).mono ?_
  rintro e w9 ⟨rfl, hM9, hb9⟩
  go_wp2_with fail
  refine (is_nil 0 _).mono ?_
  rintro e w' ⟨rfl, rfl⟩
  go_wp2_with fail
  refine (free_none_isM hM9 512 fun n h8 h12 hr => ?_).mono ?_
  · rw [drop_rd] at hr
    by_cases h : n = 8
    · rw [if_pos h] at hr; cases hr
    · omega
  rintro e w10 ⟨rfl, hM10, hb10⟩
  go_wp2_with fail
  refine (is_errno 8 8 _).mono ?_
  rintro e w' ⟨rfl, rfl⟩
  go_wp2_with fail
  have C4 := sealed_isM hM10
  rw [f8] at C4
  refine C4.mono ?_
  clear C4
  rintro e w11 ⟨rfl, hM11, hb11⟩
  have HZ := hide (HB7.out.trans (hb8.trans (hb9.trans (hb10.trans hb11))))
  clear hb8 hb9 hb10 hb11 hM7 hM8 hM9 hM10 hM11
  go_wp2
  go_ret
  refine ⟨rfl, ?_⟩
  rw [← hg.out]
  exact HZ.out

theorem topMem_any (oa ob : Option Addr) (n na q nb : Nat) (hn : n ≤ 9223372036854775807) (hq : q ≤ 9223372036854775807) (L M : Nat → AC) (s t : ByteArray) (hs : s.size ≤ 9223372036854775807) (ht : t.size ≤ 9223372036854775807) (w : World) (hA : IsActs oa n L w) (hB : IsActs ob q M w)
    :
    Calls Try.prog 6 #[.slice oa n na, .string s, .string t, .slice ob q nb] w fun e w' => e = .returned (.bool true) ∧ Below w.heap.size w w' := by
  by_cases hx : lightR n L 30 = false ∨ lightR q M 30 = false ∨ 64 < s.size ∨ 64 < t.size
  · exact topMem_heavy oa ob n na q nb hn hq L M s t hs ht w hA hB hx
  · rw [not_or, not_or, not_or, Bool.not_eq_false, Bool.not_eq_false] at hx
    exact topMem_light oa ob n na q nb L M s t (by omega) (by omega) w hA hB hx.1 hx.2.1
end Go.Proofs.Ytlpcjonklfnejaa
