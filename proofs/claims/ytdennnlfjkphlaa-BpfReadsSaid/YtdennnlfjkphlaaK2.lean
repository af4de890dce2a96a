/- BpfReads returns true for all texts, and leaves them as they were. -/
import Derived.Test.YtdennnlfjkphlaaK1
import Derived.ProofKit
import Derived.Carry
import Derived.OpenShut
import Derived.Deep.Slices
import Derived.Lib.SmallJoins
/- Parse. -/
namespace Go.Proofs.Ytdennnlfjkphlaa
open Go.RowKit

/-- The instructions of a text. -/
def progOf (s : ByteArray) (i : Nat) : IN := insAt s (8 * i)
def insCell (x : IN) (j : Nat) : Value := if j = 0 then .int .i64 x.op else if j = 1 then .int .i64 x.jt else if j = 2 then .int .i64 x.jf else .int .u32 x.k
def zeroIN : IN := ⟨0, 0, 0, 0⟩
/-- The cells of a list of which i are written. -/
def cellP (M : Nat → IN) (i j : Nat) : Value := insCell (if j / 4 < i then M (j / 4) else zeroIN) (j % 4)
theorem cellP_step (M : Nat → IN) (i : Nat) : updV (updV (updV (updV (cellP M i) (i * 4) (.int .i64 (M i).op)) (i * 4 + 1) (.int .i64 (M i).jt)) (i * 4 + 2) (.int .i64 (M i).jf)) (i * 4 + 3) (.int .u32 (M i).k) = cellP M (i + 1) := by
  funext j
  unfold updV
  by_cases h3 : j = i * 4 + 3
  · rw [if_pos h3]; unfold cellP; rw [if_pos (by omega), show j / 4 = i by omega, show j % 4 = 3 by omega]; rfl
  rw [if_neg h3]
  by_cases h2 : j = i * 4 + 2
  · rw [if_pos h2]; unfold cellP; rw [if_pos (by omega), show j / 4 = i by omega, show j % 4 = 2 by omega]; rfl
  rw [if_neg h2]
  by_cases h1 : j = i * 4 + 1
  · rw [if_pos h1]; unfold cellP; rw [if_pos (by omega), show j / 4 = i by omega, show j % 4 = 1 by omega]; rfl
  rw [if_neg h1]
  by_cases h0 : j = i * 4
  · rw [if_pos h0]; unfold cellP; rw [if_pos (by omega), show j / 4 = i by omega, show j % 4 = 0 by omega]; rfl
  rw [if_neg h0]
  unfold cellP
  by_cases hl : j / 4 < i
  · rw [if_pos hl, if_pos (by omega)]
  · rw [if_neg hl, if_neg (by omega)]

theorem info_ins : ∃ i, Try.prog.info? 78 = some i ∧ i.zero = some (.agg #[.int .i64 0, .int .i64 0, .int .i64 0, .int .u32 0]) ∧ i.size = 4 ∧ i.bytes = 32 := by
  have hz : (Try.prog.info? 78).map (·.zero) = some (some (.agg #[.int .i64 0, .int .i64 0, .int .i64 0, .int .u32 0])) := by kernel_rfl
  have hs : (Try.prog.info? 78).map (·.size) = some 4 := by kernel_rfl
  have hb : (Try.prog.info? 78).map (·.bytes) = some 32 := by kernel_rfl
  cases hq : Try.prog.info? 78 with
  | none => rw [hq] at hs; simp at hs
  | some i =>
    rw [hq] at hz hs hb
    simp at hz hs hb
    exact ⟨i, rfl, hz, hs, hb⟩
theorem made_ins (M : Nat → IN) (n : Nat) : madeCells (Value.agg #[.int .i64 0, .int .i64 0, .int .i64 0, .int .u32 0]).cells (n * 4) = VA (n * 4) (cellP M 0) := by
  apply Array.ext_getElem?
  intro j
  by_cases h : j < n * 4
  · rw [VA_get _ _ j h]
    unfold cellP
    rw [if_neg (by omega)]
    have hc : j % 4 = 0 ∨ j % 4 = 1 ∨ j % 4 = 2 ∨ j % 4 = 3 := by omega
    rcases hc with e | e | e | e <;> simp [madeCells, Value.cells, h, e, insCell, zeroIN]
  · have e1 : (madeCells (Value.agg #[.int .i64 0, .int .i64 0, .int .i64 0, .int .u32 0]).cells (n * 4))[j]? = none := by simp [size_madeCells]; omega
    rw [e1, VA_none _ _ j h]
/-- 'make([]Insn, n)'. -/
theorem wpList_make_ins {ops : Array Oper} {rest : List Oper} {o : Oper} {a : Act} {w : World} {Q : Exit → Act → World → Prop} (hgd : o.guard = none) (x y : Operand) (ho : o.op = .makeSlice 76 x y) (n : Nat) (M : Nat → IN)
    (hx : a.eval x = .int .i64 n) (hy : a.eval y = .int .i64 n) (hn : n ≤ 10000)
    (h : wpList Try.prog ops Q rest (a.put o.dst (.slice (some ⟨w.heap.size, 0, none⟩) n n)) (w.alloc (.cells (VA (n * 4) (cellP M 0)) 78))) : wpList Try.prog ops Q (o :: rest) a w := by
  obtain ⟨i, hi, hz, hs, hb⟩ := info_ins
  have hr := run_make (P := Try.prog) w 76 78 i _ Try.underlying76 hi hz .i64 .i64 (n : Int) (n : Int) (by omega) (by omega) (by rw [hb]; omega) (by omega)
  rw [hs, Int.toNat_natCast, made_ins M] at hr
  refine wpList_plain hgd fun _ hK => ?_
  unfold Oper.wp execOp
  simp only [ho, hx, hy, Sem.run_bind, hr, Result.andThen_ok]
  exact hK _ _ h

theorem byteAt_extract (s : ByteArray) (a j : Nat) (h : a + j < s.size) : byteAt (s.extract a s.size) j = byteAt s (a + j) := by
  unfold byteAt
  rw [Lib.extract_data, List.getD_eq_getElem?_getD, List.getD_eq_getElem?_getD, List.getElem?_take, if_pos (by omega), List.getElem?_drop]
theorem kTo_extract (s : ByteArray) (a o : Nat) : ∀ i, a + o + i ≤ s.size → kTo (s.extract a s.size) o i = kTo s (a + o) i
  | 0, _ => rfl
  | i + 1, h => by rw [kTo, kTo, kTo_extract s a o i (by omega), byteAt_extract s a (o + i) (by omega), Nat.add_assoc]
theorem insAt_extract (s : ByteArray) (a : Nat) (h : a + 8 ≤ s.size) : insAt (s.extract a s.size) 0 = insAt s a := by
  unfold insAt
  rw [byteAt_extract s a 0 (by omega), byteAt_extract s a (0 + 2) (by omega), byteAt_extract s a (0 + 3) (by omega), kTo_extract s a (0 + 4) 4 (by omega), Nat.zero_add, Nat.zero_add, Nat.zero_add, Nat.add_zero]
theorem insAt_ok (s : ByteArray) (o : Nat) : InOk (insAt s o) := by
  have h0 := byteAt_lt s o
  have h2 := byteAt_lt s (o + 2)
  have h3 := byteAt_lt s (o + 3)
  have h4 := kTo_lt s (o + 4) 4
  exact ⟨by simp only [insAt]; omega, by simp only [insAt]; omega, by simp only [insAt]; omega, by simp only [insAt]; omega, by simp only [insAt]; omega, by simp only [insAt]; omega, by simp only [insAt]; omega⟩

/-- A row of instructions is a program. -/
theorem prog_row {W : World} {g n : Nat} {M : Nat → IN} (h : W.heap[g]? = some (.cells (VA (n * 4) (cellP M n)) 78 (0, 0))) (hok : ∀ i, i < n → InOk (M i)) : IsProg (some ⟨g, 0, none⟩) n M W :=
  ⟨fun _ => ⟨g, 0, rfl, (Array.getElem?_eq_some_iff.1 h).1, fun i hi => by
    have hc := fun j (hj : j < 4) => (cell_of_row W g (0 + i * 4 + j) _ _ _ h).trans (VA_get _ _ _ (show 0 + i * 4 + j < n * 4 by omega))
    have e := fun j (hj : j < 4) => show cellP M n (0 + i * 4 + j) = insCell (M i) j by unfold cellP; rw [if_pos (by omega), show (0 + i * 4 + j) / 4 = i by omega, show (0 + i * 4 + j) % 4 = j by omega]
    exact ⟨by have := hc 0 (by omega); rw [e 0 (by omega)] at this; exact this, by have := hc 1 (by omega); rw [e 1 (by omega)] at this; exact this, by have := hc 2 (by omega); rw [e 2 (by omega)] at this; exact this, by have := hc 3 (by omega); rw [e 3 (by omega)] at this; exact this, hok i hi⟩⟩⟩

theorem parse_long (s : ByteArray) (hs : 32768 < s.size) (hm : s.size ≤ 9223372036854775807) (w : World) :
    Calls Try.prog 51 #[.string s] w fun e w' => e = .returned (.tuple #[.slice none 0 0, .iface 98 (.int .i64 4)]) ∧ Below w.heap.size w w' := by
  go_enter Try.func51, Try.ntmps51
  go_wp2
  go_ret2
  exact ⟨rfl, Below.refl _ _⟩

set_option maxRecDepth 20000 in
set_option maxHeartbeats 2000000 in
theorem parse_any (s : ByteArray) (hs : s.size ≤ 32768) (w : World) :
    Calls Try.prog 51 #[.string s] w fun e w' => Below w.heap.size w w' ∧ ((checkR (s.size / 8) (progOf s) = 0 ∧ strB (progB (progOf s) (s.size / 8)) = s ∧ ∃ g, e = .returned (.tuple #[.slice (some ⟨g, 0, none⟩) (s.size / 8) (s.size / 8), .nilIface]) ∧ IsProg (some ⟨g, 0, none⟩) (s.size / 8) (progOf s) w') ∨
      (¬ (checkR (s.size / 8) (progOf s) = 0 ∧ strB (progB (progOf s) (s.size / 8)) = s) ∧ e = .returned (.tuple #[.slice none 0 0, .iface 98 (.int .i64 4)]))) := by
  obtain ⟨n, hn⟩ : ∃ n, n = s.size / 8 := ⟨_, rfl⟩
  rw [← hn]
  have hn8 : 8 * n ≤ s.size := by omega
  have hdiv : (s.size : Int) / 8 = (n : Int) := by omega
  have ds : decide ((32768 : Int) < (s.size : Int)) = false := by simp; omega
  replace hn := hide hn
  go_enter Try.func51, Try.ntmps51
  go_wp2_with (at_make; refine wpList_make_ins rfl _ _ rfl n (progOf s) ?_ ?_ (by omega) ?_; (· simp [Act.eval]); (· simp [Act.eval]))
  obtain ⟨g, hg⟩ : ∃ g, g = w.heap.size := ⟨_, rfl⟩
  have HH0 := hide (heap_alloc_new w (.cells (VA (n * 4) (cellP (progOf s) 0)) 78))
  rw [← hg] at HH0 ⊢
  replace hg := hide hg
  go_loopw [18] (fun I wr => ∃ i : Nat, i ≤ n ∧ I = .int .i64 i ∧ Hid (wr.heap[g]? = some (.cells (VA (n * 4) (cellP (progOf s) i)) 78 (0, 0))) ∧ Hid (Below g w wr)) (fun I _ => n - (intOf I).toNat)
  case atStart => exact ⟨0, by omega, rfl, HH0, hide (by rw [hg.out]; exact box_below _ _)⟩
  case round =>
    obtain ⟨i, hi, rfl, HX, HB⟩ := hrel
    by_cases hlt : i < n
    · have HC := readInsn_any (s.extract (i * 8) s.size) (by rw [ByteArray.size_extract]; omega) (by rw [ByteArray.size_extract]; omega)
      rw [insAt_extract s (i * 8) (by omega)] at HC
      have HI := hide (show progOf s i = insAt s (i * 8) by unfold progOf; rw [Nat.mul_comm])
      obtain ⟨x, hx⟩ : ∃ x, x = insAt s (i * 8) := ⟨_, rfl⟩
      rw [← hx] at HC HI
      clear hx
      have HST := hide (cellP_step (progOf s) i)
      rw [HI.out] at HST
      clear HI
      obtain ⟨op, jt, jf, k⟩ := x
      unfold insV at HC
      simp only at HC HST
      have hi8 : i * 8 ≤ s.size := by omega
      go_wp2_with (go_at_call 69; refine (HC _).mono ?_; rintro e w2 ⟨rfl, hb2⟩; have HH2 := hide ((hb2.block g (Array.getElem?_eq_some_iff.1 HX.out).1).trans HX.out); have q0 := (cell_of_row w2 g (i * 4) _ _ _ HH2.out).trans (VA_get _ _ _ (by omega)); have q1 := (cell_of_row w2 g (i * 4 + 1) _ _ _ HH2.out).trans (VA_get _ _ _ (by omega)); have q2 := (cell_of_row w2 g (i * 4 + 2) _ _ _ HH2.out).trans (VA_get _ _ _ (by omega)); have q3 := (cell_of_row w2 g (i * 4 + 3) _ _ _ HH2.out).trans (VA_get _ _ _ (by omega)); have fz := fun j => frozen_of_row w2 g j _ _ HH2.out)
      have HH3 := hide (show ((((w2.setCell ⟨g, i * 4, none⟩ (.int .i64 op)).setCell ⟨g, i * 4 + 1, none⟩ (.int .i64 jt)).setCell ⟨g, i * 4 + 2, none⟩ (.int .i64 jf)).setCell ⟨g, i * 4 + 3, none⟩ (.int .u32 k)).heap[g]? = some (.cells (VA (n * 4) (cellP (progOf s) (i + 1))) 78 (0, 0)) by
        have h := set_one _ g (i * 4 + 3) (.int .u32 k) _ 78 (set_one _ g (i * 4 + 2) (.int .i64 jf) _ 78 (set_one _ g (i * 4 + 1) (.int .i64 jt) _ 78 (set_one w2 g (i * 4) (.int .i64 op) _ 78 HH2.out)))
        rw [VA_set, VA_set, VA_set, VA_set, HST.out] at h
        exact h)
      go_round
      case rel => exact ⟨i + 1, by omega, by go_num, HH3, hide (((((HB.out.trans (hb2.mono (Nat.le_of_lt (Array.getElem?_eq_some_iff.1 HX.out).1))).setCell (Nat.le_refl _) _).setCell (Nat.le_refl _) _).setCell (Nat.le_refl _) _).setCell (Nat.le_refl _) _)⟩
      case measure => simp [intOf]; omega
    · obtain rfl : i = n := by omega
      have HP := hide (prog_row HX.out fun j _ => insAt_ok s _)
      by_cases hc : checkR i (progOf s) = 0
      · have HY := bytes_ok (some ⟨g, 0, none⟩) i i (progOf s) wr HP.out hc
        by_cases he : strB (progB (progOf s) i) = s
        · rw [he] at HY
          go_wp2_with (go_at_call 46; refine HY.mono ?_; rintro e w3 ⟨rfl, hb3⟩)
          go_ret2
          exact ⟨by rw [← hg.out]; exact HB.out.trans (hb3.mono (Nat.le_of_lt (Array.getElem?_eq_some_iff.1 HX.out).1)), .inl ⟨hc, he, g, rfl, HP.out.on hb3⟩⟩
        · have hne : ((strB (progB (progOf s) i)).toList == s.toList) = false := by
            rw [Lib.toList_data, Lib.toList_data, beq_eq_false_iff_ne]
            intro h
            exact he (by
              have h2 : (strB (progB (progOf s) i)).data = s.data := Array.toList_inj.1 h
              exact congrArg ByteArray.mk h2)
          obtain ⟨t, ht⟩ : ∃ t, t = strB (progB (progOf s) i) := ⟨_, rfl⟩
          rw [← ht] at HY hne
          have HN := hide he
          clear he ht
          go_wp2_with (go_at_call 46; refine HY.mono ?_; rintro e w3 ⟨rfl, hb3⟩)
          go_ret2
          exact ⟨by rw [← hg.out]; exact HB.out.trans (hb3.mono (Nat.le_of_lt (Array.getElem?_eq_some_iff.1 HX.out).1)), .inr ⟨fun h => HN.out h.2, rfl⟩⟩
      · have HY := bytes_bad (some ⟨g, 0, none⟩) i i (by omega) (progOf s) wr HP.out hc
        rw [errV_pos hc] at HY
        go_wp2_with (go_at_call 46; refine HY.mono ?_; rintro e w3 ⟨rfl, hb3⟩)
        go_ret2
        exact ⟨by rw [← hg.out]; exact HB.out.trans (hb3.mono (Nat.le_of_lt (Array.getElem?_eq_some_iff.1 HX.out).1)), .inr ⟨fun h => hc h.1, rfl⟩⟩
end Go.Proofs.Ytdennnlfjkphlaa

/- The document's record, Word. -/
namespace Go.Proofs.Ytdennnlfjkphlaa
open Go.RowKit

/-- The record's cells, i arguments being written. -/
def recA (c : CL) : Nat → Array Value
  | 0 => #[.int .u32 c.nr, .int .u32 c.arch, .int .u32 0, .int .u32 0, .int .u32 0, .int .u32 0, .int .u32 0, .int .u32 0, .int .u32 0, .int .u32 0]
  | 1 => #[.int .u32 c.nr, .int .u32 c.arch, .int .u32 (wordN c 2), .int .u32 (wordN c 3), .int .u32 0, .int .u32 0, .int .u32 0, .int .u32 0, .int .u32 0, .int .u32 0]
  | 2 => #[.int .u32 c.nr, .int .u32 c.arch, .int .u32 (wordN c 2), .int .u32 (wordN c 3), .int .u32 (wordN c 4), .int .u32 (wordN c 5), .int .u32 0, .int .u32 0, .int .u32 0, .int .u32 0]
  | 3 => #[.int .u32 c.nr, .int .u32 c.arch, .int .u32 (wordN c 2), .int .u32 (wordN c 3), .int .u32 (wordN c 4), .int .u32 (wordN c 5), .int .u32 (wordN c 6), .int .u32 (wordN c 7), .int .u32 0, .int .u32 0]
  | _ => #[.int .u32 (wordN c 0), .int .u32 (wordN c 1), .int .u32 (wordN c 2), .int .u32 (wordN c 3), .int .u32 (wordN c 4), .int .u32 (wordN c 5), .int .u32 (wordN c 6), .int .u32 (wordN c 7), .int .u32 (wordN c 8), .int .u32 (wordN c 9)]
def recZ : Array Value := #[.int .u32 0, .int .u32 0, .int .u32 0, .int .u32 0, .int .u32 0, .int .u32 0, .int .u32 0, .int .u32 0, .int .u32 0, .int .u32 0]

theorem size_rec : (Try.prog.info? 125).map (·.size) = some 10 := by kernel_rfl
theorem heap_mid (w : World) (o1 o2 o3 : Obj) : (((w.alloc o1).alloc o2).alloc o3).heap[w.heap.size + 1]? = some o2 := by
  have h1 : (w.alloc o1).heap.size = w.heap.size + 1 := by simp
  have h := heap_alloc_new (w.alloc o1) o2
  rw [h1] at h
  exact (heap_alloc_old ((w.alloc o1).alloc o2) o3 (h := by simp)).trans h
set_option maxRecDepth 20000 in
theorem record_any (c : CL) (hc : ClOk c) (w : World) : Calls Try.prog 65 #[callV c] w fun e w' => e = .returned (.agg (recA c 4)) ∧ Below w.heap.size w w' := by
  obtain ⟨h1, h2, h3, h4, h5, h6⟩ := hc
  have q0 : ((wordN c 2 : Nat) : Int) = (c.a0 : Int) % 4294967296 := by simp only [wordN]; omega
  have q1 : ((wordN c 3 : Nat) : Int) = (c.a0 : Int) / 4294967296 := by simp only [wordN]; omega
  have q2 : ((wordN c 4 : Nat) : Int) = (c.a1 : Int) % 4294967296 := by simp only [wordN]; omega
  have q3 : ((wordN c 5 : Nat) : Int) = (c.a1 : Int) / 4294967296 := by simp only [wordN]; omega
  have q4 : ((wordN c 6 : Nat) : Int) = (c.a2 : Int) % 4294967296 := by simp only [wordN]; omega
  have q5 : ((wordN c 7 : Nat) : Int) = (c.a2 : Int) / 4294967296 := by simp only [wordN]; omega
  have q6 : ((wordN c 8 : Nat) : Int) = (c.a3 : Int) % 4294967296 := by simp only [wordN]; omega
  have q7 : ((wordN c 9 : Nat) : Int) = (c.a3 : Int) / 4294967296 := by simp only [wordN]; omega
  have HQ := hide (And.intro q0 (And.intro q1 (And.intro q2 (And.intro q3 (And.intro q4 (And.intro q5 (And.intro q6 q7)))))))
  clear q0 q1 q2 q3 q4 q5 q6 q7
  unfold callV
  go_enter Try.func65, Try.ntmps65
  go_wp2
  go_loopw [4] (fun I wr => ∃ i : Nat, i ≤ 4 ∧ I = .int .i64 i ∧ wr = ((w.alloc (.cells #[.int .u32 c.arch, .int .u32 c.nr, .int .u64 c.a0, .int .u64 c.a1, .int .u64 c.a2, .int .u64 c.a3] 46)).alloc (.cells recZ 125)).alloc (.cells (recA c i) 125)) (fun I _ => 4 - (intOf I).toNat)
  case atStart => exact ⟨0, by omega, rfl, rfl⟩
  case round =>
    obtain ⟨i, hi, rfl, rfl⟩ := hrel
    have hcase : i = 0 ∨ i = 1 ∨ i = 2 ∨ i = 3 ∨ i = 4 := by omega
    rcases hcase with rfl | rfl | rfl | rfl | rfl
    · simp only [recA, recZ]
      go_wp2
      go_round
      case rel => exact ⟨1, by omega, by go_num, by rw [HQ.out.1, HQ.out.2.1] <;> rfl⟩
      case measure => simp [intOf]
    · simp only [recA, recZ]
      go_wp2
      go_round
      case rel => exact ⟨2, by omega, by go_num, by rw [HQ.out.2.2.1, HQ.out.2.2.2.1] <;> rfl⟩
      case measure => simp [intOf]
    · simp only [recA, recZ]
      go_wp2
      go_round
      case rel => exact ⟨3, by omega, by go_num, by rw [HQ.out.2.2.2.2.1, HQ.out.2.2.2.2.2.1] <;> rfl⟩
      case measure => simp [intOf]
    · simp only [recA, recZ]
      go_wp2
      go_round
      case rel => exact ⟨4, by omega, by go_num, by rw [HQ.out.2.2.2.2.2.2.1, HQ.out.2.2.2.2.2.2.2] <;> rfl⟩
      case measure => simp [intOf]
    · simp only [recA, recZ]
      go_wp2
      refine bodyPost_ret (results_cell_row rfl _ _ (w.heap.size + 1) 125 (recA c 4) (0, 0) _ rfl ?_ Try.underlying125 rfl size_rec) rfl ⟨rfl, ?_⟩
      · exact heap_mid w _ _ _
      · exact below_next (below_next (box_below w _) (box_below _ _)) (box_below _ _)

theorem rec_get (c : CL) (i : Nat) (hi : i < 10) : (recA c 4)[i]? = some (.int .u32 (wordN c i)) := by
  match i, hi with
  | 0, _ => rfl
  | 1, _ => rfl
  | 2, _ => rfl
  | 3, _ => rfl
  | 4, _ => rfl
  | 5, _ => rfl
  | 6, _ => rfl
  | 7, _ => rfl
  | 8, _ => rfl
  | 9, _ => rfl

/-- The document's word: what it is, and the error's number. -/
def rwordV (c : CL) (k : Nat) : Value := .tuple #[.int .u32 (if placeB k then wordN c (k / 4) else 0), .int .i64 (if placeB k then 0 else 1)]
theorem rword_any (c : CL) (hc : ClOk c) (k : Nat) (hk : k < 4294967296) (w : World) : Calls Try.prog 44 #[callV c, .int .u32 k] w fun e w' => e = .returned (rwordV c k) ∧ Below w.heap.size w w' := by
  have HR := record_any c hc
  unfold callV at HR ⊢
  have HK := hide hk
  go_enter Try.func44, Try.ntmps44
  go_wp2_with fail
  refine (HR _).mono ?_
  rintro e w1 ⟨rfl, hb1⟩
  replace hb1 := hide (below_next (box_below w _) hb1)
  clear HR
  have HG := hide (fun i (hi : i < 10) => (cell_of_row (w1.alloc (.cells (recA c 4) 125)) w1.heap.size i _ _ _ (heap_alloc_new w1 _)).trans (rec_get c i hi))
  simp only [recA]
  go_wp2
  go_loopw [7] (fun I wr => ∃ i : Nat, i ≤ 10 ∧ I = .int .i64 i ∧ wr = w1.alloc (.cells (recA c 4) 125) ∧ Hid (∀ j, j < i → k ≠ 4 * j)) (fun I _ => 10 - (intOf I).toNat)
  case atStart => exact ⟨0, by omega, rfl, rfl, hide fun j hj => by omega⟩
  case round =>
    obtain ⟨i, hi, rfl, rfl, HN⟩ := hrel
    by_cases hlt : i < 10
    · by_cases he : k = 4 * i
      · have HP := hide (show placeB k = true by unfold placeB; simp; omega)
        have HD := hide (show k / 4 = i by omega)
        have c1 := HG.out i hlt
        have d1 : ((k : Int) == 4 * (i : Int)) = true := by rw [beq_iff_eq]; omega
        clear he
        go_wp2
        go_ret2
        refine ⟨?_, below_next hb1.out (box_below _ _)⟩
        unfold rwordV
        rw [HP.out, HD.out]
        rfl
      · have d1 : ((k : Int) == 4 * (i : Int)) = false := by rw [beq_eq_false_iff_ne]; omega
        have HN2 := hide (show ∀ j, j < i + 1 → k ≠ 4 * j from fun j hj => by
          by_cases h : j < i
          · exact HN.out j h
          · rw [show j = i by omega]; exact he)
        clear he
        go_wp2
        go_round
        case rel => exact ⟨i + 1, by omega, by go_num, trivial, HN2⟩
        case measure => simp [intOf]; omega
    · obtain rfl : i = 10 := by omega
      have HP := hide (show placeB k = false by
        cases hp : placeB k with
        | false => rfl
        | true =>
          rcases place_cases hp with h | h | h | h | h | h | h | h | h | h
          · exact absurd h (HN.out 0 (by omega))
          · exact absurd h (HN.out 1 (by omega))
          · exact absurd h (HN.out 2 (by omega))
          · exact absurd h (HN.out 3 (by omega))
          · exact absurd h (HN.out 4 (by omega))
          · exact absurd h (HN.out 5 (by omega))
          · exact absurd h (HN.out 6 (by omega))
          · exact absurd h (HN.out 7 (by omega))
          · exact absurd h (HN.out 8 (by omega))
          · exact absurd h (HN.out 9 (by omega)))
      go_wp2
      go_ret2
      refine ⟨?_, below_next hb1.out (box_below _ _)⟩
      unfold rwordV
      rw [HP.out]
      rfl
end Go.Proofs.Ytdennnlfjkphlaa

/- The document's ProgramFault. -/
namespace Go.Proofs.Ytdennnlfjkphlaa
open Go.RowKit

theorem faultI_eq (op jt jf : Int) (k m : Nat) : faultI ⟨op, jt, jf, k⟩ m = if op < 1 ∨ 8 < op ∨ jt < 0 ∨ 255 < jt ∨ jf < 0 ∨ 255 < jf then 1 else if ¬ (4 ≤ op ∧ op ≤ 7) ∧ (jt ≠ 0 ∨ jf ≠ 0) then 3
    else if (op = 1 ∧ placeB k = false) ∨ (op = 3 ∧ m ≤ k) ∨ ((4 ≤ op ∧ op ≤ 7) ∧ ((m : Int) ≤ jt ∨ (m : Int) ≤ jf)) then 1 else 0 := by
  unfold faultI
  have e1 : ((decide (op < 1) || decide (8 < op) || !skipB jt || !skipB jf) = true) ↔ (op < 1 ∨ 8 < op ∨ jt < 0 ∨ 255 < jt ∨ jf < 0 ∨ 255 < jf) := by
    simp only [skipB, Bool.or_eq_true, decide_eq_true_eq, Bool.not_eq_true', Bool.and_eq_false_iff, decide_eq_false_iff_not]
    omega
  have e2 : ((!branchB op && (jt != 0 || jf != 0)) = true) ↔ (¬ (4 ≤ op ∧ op ≤ 7) ∧ (jt ≠ 0 ∨ jf ≠ 0)) := by
    simp only [branchB, Bool.and_eq_true, Bool.or_eq_true, Bool.not_eq_true', Bool.and_eq_false_iff, decide_eq_false_iff_not, bne_iff_ne]
    omega
  have e3 : ((op == 1 && !placeB k || op == 3 && decide (m ≤ k) || branchB op && (decide ((m : Int) ≤ jt) || decide ((m : Int) ≤ jf))) = true) ↔ ((op = 1 ∧ placeB k = false) ∨ (op = 3 ∧ m ≤ k) ∨ ((4 ≤ op ∧ op ≤ 7) ∧ ((m : Int) ≤ jt ∨ (m : Int) ≤ jf))) := by
    simp only [branchB, Bool.and_eq_true, Bool.or_eq_true, Bool.not_eq_true', decide_eq_true_eq, beq_iff_eq, or_assoc]
  simp only [e1, e2, e3]

/-- No call. -/
def zeroC : CL := ⟨0, 0, 0, 0, 0, 0⟩
theorem zeroC_ok : ClOk zeroC := ⟨by decide, by decide, by decide, by decide, by decide, by decide⟩

set_option maxRecDepth 20000 in
set_option maxHeartbeats 8000000 in
theorem rfault_any (oa : Option Addr) (n cap : Nat) (hn : n ≤ 9223372036854775807) (L : Nat → IN) (w : World) (h : IsProg oa n L w) :
    Calls Try.prog 45 #[.slice oa n cap] w fun e w' => e = .returned (.int .i64 (checkR n L)) ∧ Below w.heap.size w w' := by
  by_cases h0 : n = 0
  · subst h0
    go_enter Try.func45, Try.ntmps45
    go_wp2
    go_ret
    exact ⟨rfl, Below.refl _ _⟩
  by_cases h1 : 4096 < n
  · have HF := hide (show checkR n L = 2 from if_pos (.inr h1))
    go_enter Try.func45, Try.ntmps45
    go_wp2
    go_ret
    exact ⟨by rw [HF.out]; rfl, Below.refl _ _⟩
  have HR := hide (show checkR n L = if faultTo n L n = 0 then (if (L (n - 1)).op = 8 then 0 else 3) else faultTo n L n from if_neg (by omega))
  have d0 : ((n : Int) == 0) = false := by rw [beq_eq_false_iff_ne]; omega
  have dm : decide ((4096 : Int) < (n : Int)) = false := by simp; omega
  obtain ⟨b, off, rfl, hb, hA0⟩ := h.lie (by omega)
  have HA := hide hA0
  clear h hA0
  go_enter Try.func45, Try.ntmps45
  go_wp2
  go_loopw [4] (fun I w' => ∃ i : Nat, i ≤ n ∧ I = .int .i64 i ∧ Hid (Below w.heap.size w w') ∧ Hid (faultTo n L i = 0)) (fun I _ => n - (intOf I).toNat)
  case atStart => exact ⟨0, by omega, rfl, hide (Below.refl _ _), hide rfl⟩
  case round =>
    obtain ⟨i, hi, rfl, HB, HG⟩ := hrel
    by_cases hlt : i < n
    · have hI := (HA.out i hlt).on fun j => (bcell HB.out).1 b j hb
      have HQ := hide (show faultTo n L (i + 1) = faultI (L i) (n - 1 - i) by rw [faultTo, if_pos HG.out])
      have hok := hI.ok
      have HE := hide (show ∀ f, faultI (L i) (n - 1 - i) = f → f ≠ 0 → checkR n L = f from fun f h1 h2 => by
        have h3 : faultTo n L n = f := (faultTo_stays (by rw [HQ.out, h1]; exact h2) n (by omega)).trans (HQ.out.trans h1)
        rw [HR.out, if_neg (by rw [h3]; exact h2), h3])
      obtain ⟨x, hx⟩ : ∃ x, x = L i := ⟨_, rfl⟩
      rw [← hx] at hI hok HQ HE
      have HW := rword_any zeroC zeroC_ok x.k hok.k2
      obtain ⟨c0, c1, c2, c3, _⟩ := hI
      clear hx
      obtain ⟨o1, o2, o3, o4, o5, o6, hk⟩ := hok
      obtain ⟨op, jt, jf, k⟩ := x
      unfold rwordV callV at HW
      simp only [zeroC] at HW
      simp only at c0 c1 c2 c3 HW o1 o2 o3 o4 o5 o6 hk
      have hwr : b ≠ wr.heap.size := by have := HB.out.size; omega
      obtain ⟨z, hz⟩ : ∃ z : Int, z = (if placeB k = true then 0 else 1) := ⟨_, rfl⟩
      obtain ⟨u, hu⟩ : ∃ u : Int, u = (if placeB k = true then ((wordN ⟨0, 0, 0, 0, 0, 0⟩ (k / 4) : Nat) : Int) else 0) := ⟨_, rfl⟩
      rw [← hz, ← hu] at HW
      have HZZ := hide hz
      clear hz hu
      by_cases a1 : op < 1
      · have HZ := hide (show faultI ⟨op, jt, jf, k⟩ (n - 1 - i) = 1 by rw [faultI_eq, if_pos (by omega)])
        replace HE := hide (HE.out 1 HZ.out (by decide))
        clear HQ HZ
        go_wp2_with (go_at_call 44; refine (HW _).mono ?_; rintro e w2 ⟨rfl, hb2⟩; have hbc := bcell hb2)
        all_goals
          go_ret
          exact ⟨by rw [HE.out]; rfl, below_next HB.out (below_next (box_below wr _) hb2)⟩
      by_cases a2 : 8 < op
      · have HZ := hide (show faultI ⟨op, jt, jf, k⟩ (n - 1 - i) = 1 by rw [faultI_eq, if_pos (by omega)])
        replace HE := hide (HE.out 1 HZ.out (by decide))
        clear HQ HZ
        go_wp2_with (go_at_call 44; refine (HW _).mono ?_; rintro e w2 ⟨rfl, hb2⟩; have hbc := bcell hb2)
        all_goals
          go_ret
          exact ⟨by rw [HE.out]; rfl, below_next HB.out (below_next (box_below wr _) hb2)⟩
      by_cases a3 : jt < 0
      · have HZ := hide (show faultI ⟨op, jt, jf, k⟩ (n - 1 - i) = 1 by rw [faultI_eq, if_pos (by omega)])
        replace HE := hide (HE.out 1 HZ.out (by decide))
        clear HQ HZ
        go_wp2_with (go_at_call 44; refine (HW _).mono ?_; rintro e w2 ⟨rfl, hb2⟩; have hbc := bcell hb2)
        all_goals
          go_ret
          exact ⟨by rw [HE.out]; rfl, below_next HB.out (below_next (box_below wr _) hb2)⟩
      by_cases a4 : 255 < jt
      · have HZ := hide (show faultI ⟨op, jt, jf, k⟩ (n - 1 - i) = 1 by rw [faultI_eq, if_pos (by omega)])
        replace HE := hide (HE.out 1 HZ.out (by decide))
        clear HQ HZ
        go_wp2_with (go_at_call 44; refine (HW _).mono ?_; rintro e w2 ⟨rfl, hb2⟩; have hbc := bcell hb2)
        all_goals
          go_ret
          exact ⟨by rw [HE.out]; rfl, below_next HB.out (below_next (box_below wr _) hb2)⟩
      by_cases a5 : jf < 0
      · have HZ := hide (show faultI ⟨op, jt, jf, k⟩ (n - 1 - i) = 1 by rw [faultI_eq, if_pos (by omega)])
        replace HE := hide (HE.out 1 HZ.out (by decide))
        clear HQ HZ
        go_wp2_with (go_at_call 44; refine (HW _).mono ?_; rintro e w2 ⟨rfl, hb2⟩; have hbc := bcell hb2)
        all_goals
          go_ret
          exact ⟨by rw [HE.out]; rfl, below_next HB.out (below_next (box_below wr _) hb2)⟩
      by_cases a6 : 255 < jf
      · have HZ := hide (show faultI ⟨op, jt, jf, k⟩ (n - 1 - i) = 1 by rw [faultI_eq, if_pos (by omega)])
        replace HE := hide (HE.out 1 HZ.out (by decide))
        clear HQ HZ
        go_wp2_with (go_at_call 44; refine (HW _).mono ?_; rintro e w2 ⟨rfl, hb2⟩; have hbc := bcell hb2)
        all_goals
          go_ret
          exact ⟨by rw [HE.out]; rfl, below_next HB.out (below_next (box_below wr _) hb2)⟩
      by_cases b : 4 ≤ op ∧ op ≤ 7
      · obtain ⟨b4, b7⟩ := b
        have d1 : (op == 1) = false := by rw [beq_eq_false_iff_ne]; omega
        have d3 : (op == 3) = false := by rw [beq_eq_false_iff_ne]; omega
        by_cases c1 : (n : Int) ≤ (i : Int) + 1 + jt
        · have HZ := hide (show faultI ⟨op, jt, jf, k⟩ (n - 1 - i) = 1 by rw [faultI_eq, if_neg (by omega), if_neg (by omega), if_pos (by omega)])
          replace HE := hide (HE.out 1 HZ.out (by decide))
          clear HQ HZ
          go_wp2_with (go_at_call 44; refine (HW _).mono ?_; rintro e w2 ⟨rfl, hb2⟩; have hbc := bcell hb2)
          all_goals
            go_ret
            exact ⟨by rw [HE.out]; rfl, below_next HB.out (below_next (box_below wr _) hb2)⟩
        by_cases c2 : (n : Int) ≤ (i : Int) + 1 + jf
        · have HZ := hide (show faultI ⟨op, jt, jf, k⟩ (n - 1 - i) = 1 by rw [faultI_eq, if_neg (by omega), if_neg (by omega), if_pos (by omega)])
          replace HE := hide (HE.out 1 HZ.out (by decide))
          clear HQ HZ
          go_wp2_with (go_at_call 44; refine (HW _).mono ?_; rintro e w2 ⟨rfl, hb2⟩; have hbc := bcell hb2)
          all_goals
            go_ret
            exact ⟨by rw [HE.out]; rfl, below_next HB.out (below_next (box_below wr _) hb2)⟩
        have HZ := hide (show faultI ⟨op, jt, jf, k⟩ (n - 1 - i) = 0 by rw [faultI_eq, if_neg (by omega), if_neg (by omega), if_neg (by omega)])
        replace HQ := hide (HQ.out.trans HZ.out)
        clear HE HZ
        go_wp2_with (go_at_call 44; refine (HW _).mono ?_; rintro e w2 ⟨rfl, hb2⟩; have hbc := bcell hb2)
        all_goals
          go_round
          case rel => exact ⟨i + 1, by omega, by go_num, hide (below_next HB.out (below_next (box_below wr _) hb2)), HQ⟩
          case measure => simp [intOf]; omega
      have b' : op < 4 ∨ 7 < op := by omega
      by_cases t1 : 0 < jt
      · rcases b' with b5 | b5
        · have HZ := hide (show faultI ⟨op, jt, jf, k⟩ (n - 1 - i) = 3 by rw [faultI_eq, if_neg (by omega), if_pos (by omega)])
          replace HE := hide (HE.out 3 HZ.out (by decide))
          clear HQ HZ
          go_wp2_with (go_at_call 44; refine (HW _).mono ?_; rintro e w2 ⟨rfl, hb2⟩; have hbc := bcell hb2)
          all_goals
            go_ret
            exact ⟨by rw [HE.out]; rfl, below_next HB.out (below_next (box_below wr _) hb2)⟩
        · obtain rfl : op = 8 := by omega
          have HZ := hide (show faultI ⟨8, jt, jf, k⟩ (n - 1 - i) = 3 by rw [faultI_eq, if_neg (by omega), if_pos (by omega)])
          replace HE := hide (HE.out 3 HZ.out (by decide))
          clear HQ HZ
          go_wp2_with (go_at_call 44; refine (HW _).mono ?_; rintro e w2 ⟨rfl, hb2⟩; have hbc := bcell hb2)
          all_goals
            go_ret
            exact ⟨by rw [HE.out]; rfl, below_next HB.out (below_next (box_below wr _) hb2)⟩
      by_cases t2 : 0 < jf
      · rcases b' with b5 | b5
        · have HZ := hide (show faultI ⟨op, jt, jf, k⟩ (n - 1 - i) = 3 by rw [faultI_eq, if_neg (by omega), if_pos (by omega)])
          replace HE := hide (HE.out 3 HZ.out (by decide))
          clear HQ HZ
          go_wp2_with (go_at_call 44; refine (HW _).mono ?_; rintro e w2 ⟨rfl, hb2⟩; have hbc := bcell hb2)
          all_goals
            go_ret
            exact ⟨by rw [HE.out]; rfl, below_next HB.out (below_next (box_below wr _) hb2)⟩
        · obtain rfl : op = 8 := by omega
          have HZ := hide (show faultI ⟨8, jt, jf, k⟩ (n - 1 - i) = 3 by rw [faultI_eq, if_neg (by omega), if_pos (by omega)])
          replace HE := hide (HE.out 3 HZ.out (by decide))
          clear HQ HZ
          go_wp2_with (go_at_call 44; refine (HW _).mono ?_; rintro e w2 ⟨rfl, hb2⟩; have hbc := bcell hb2)
          all_goals
            go_ret
            exact ⟨by rw [HE.out]; rfl, below_next HB.out (below_next (box_below wr _) hb2)⟩
      obtain ⟨rfl, rfl⟩ : jt = 0 ∧ jf = 0 := by omega
      have hop : op = 1 ∨ op = 2 ∨ op = 3 ∨ op = 8 := by omega
      clear a1 a2 a3 a4 a5 a6 b b' t1 t2
      rcases hop with rfl | rfl | rfl | rfl
      · have hz := HZZ.out
        cases e4 : placeB k with
        | false =>
          rw [e4, if_neg (by decide)] at hz
          subst hz
          clear HZZ
          have HZ := hide (show faultI ⟨1, 0, 0, k⟩ (n - 1 - i) = 1 by rw [faultI_eq, if_neg (by omega), if_neg (by omega), if_pos (.inl ⟨rfl, e4⟩)])
          replace HE := hide (HE.out 1 HZ.out (by decide))
          clear HQ HZ
          go_wp2_with (go_at_call 44; refine (HW _).mono ?_; rintro e w2 ⟨rfl, hb2⟩; have hbc := bcell hb2)
          all_goals
            go_ret
            exact ⟨by rw [HE.out]; rfl, below_next HB.out (below_next (box_below wr _) hb2)⟩
        | true =>
          rw [e4, if_pos rfl] at hz
          subst hz
          clear HZZ
          have HZ := hide (show faultI ⟨1, 0, 0, k⟩ (n - 1 - i) = 0 by rw [faultI_eq, if_neg (by omega), if_neg (by omega), if_neg (by rw [e4]; simp)])
          replace HQ := hide (HQ.out.trans HZ.out)
          clear HE HZ
          go_wp2_with (go_at_call 44; refine (HW _).mono ?_; rintro e w2 ⟨rfl, hb2⟩; have hbc := bcell hb2)
          all_goals
            go_round
            case rel => exact ⟨i + 1, by omega, by go_num, hide (below_next HB.out (below_next (box_below wr _) hb2)), HQ⟩
            case measure => simp [intOf]; omega
      · have HZ := hide (show faultI ⟨2, 0, 0, k⟩ (n - 1 - i) = 0 by rw [faultI_eq, if_neg (by omega), if_neg (by omega), if_neg (by omega)])
        replace HQ := hide (HQ.out.trans HZ.out)
        clear HE HZ
        go_wp2_with (go_at_call 44; refine (HW _).mono ?_; rintro e w2 ⟨rfl, hb2⟩; have hbc := bcell hb2)
        all_goals
          go_round
          case rel => exact ⟨i + 1, by omega, by go_num, hide (below_next HB.out (below_next (box_below wr _) hb2)), HQ⟩
          case measure => simp [intOf]; omega
      · by_cases c3 : n ≤ k + i + 1
        · have c4 : (n : Int) ≤ (k : Int) + (i : Int) + 1 := by omega
          have HZ := hide (show faultI ⟨3, 0, 0, k⟩ (n - 1 - i) = 1 by rw [faultI_eq, if_neg (by omega), if_neg (by omega), if_pos (by omega)])
          replace HE := hide (HE.out 1 HZ.out (by decide))
          clear HQ HZ
          go_wp2_with (go_at_call 44; refine (HW _).mono ?_; rintro e w2 ⟨rfl, hb2⟩; have hbc := bcell hb2)
          all_goals
            go_ret
            exact ⟨by rw [HE.out]; rfl, below_next HB.out (below_next (box_below wr _) hb2)⟩
        · have c4 : ¬ (n : Int) ≤ (k : Int) + (i : Int) + 1 := by omega
          have HZ := hide (show faultI ⟨3, 0, 0, k⟩ (n - 1 - i) = 0 by rw [faultI_eq, if_neg (by omega), if_neg (by omega), if_neg (by omega)])
          replace HQ := hide (HQ.out.trans HZ.out)
          clear HE HZ
          go_wp2_with (go_at_call 44; refine (HW _).mono ?_; rintro e w2 ⟨rfl, hb2⟩; have hbc := bcell hb2)
          all_goals
            go_round
            case rel => exact ⟨i + 1, by omega, by go_num, hide (below_next HB.out (below_next (box_below wr _) hb2)), HQ⟩
            case measure => simp [intOf]; omega
      · have HZ := hide (show faultI ⟨8, 0, 0, k⟩ (n - 1 - i) = 0 by rw [faultI_eq, if_neg (by omega), if_neg (by omega), if_neg (by omega)])
        replace HQ := hide (HQ.out.trans HZ.out)
        clear HE HZ
        go_wp2_with (go_at_call 44; refine (HW _).mono ?_; rintro e w2 ⟨rfl, hb2⟩; have hbc := bcell hb2)
        all_goals
          go_round
          case rel => exact ⟨i + 1, by omega, by go_num, hide (below_next HB.out (below_next (box_below wr _) hb2)), HQ⟩
          case measure => simp [intOf]; omega
    · obtain rfl : i = n := by omega
      have hI := (HA.out (i - 1) (by omega)).on fun j => (bcell HB.out).1 b j hb
      have c0 := hI.k0
      have HE := hide (show checkR i L = if (L (i - 1)).op = 8 then 0 else 3 by rw [HR.out, if_pos HG.out])
      obtain ⟨op, hop⟩ : ∃ op, op = (L (i - 1)).op := ⟨_, rfl⟩
      rw [← hop] at c0 HE
      clear hop hI
      obtain ⟨j, rfl⟩ : ∃ j, i = j + 1 := ⟨i - 1, by omega⟩
      rw [Nat.add_sub_cancel] at c0
      by_cases h8 : op = 8
      · subst h8
        go_wp2
        go_ret
        exact ⟨by rw [HE.out]; rfl, HB.out⟩
      · have d8 : (op != 8) = true := by rw [bne_iff_ne]; exact h8
        go_wp2
        go_ret
        exact ⟨by rw [HE.out, if_neg h8]; rfl, HB.out⟩
end Go.Proofs.Ytdennnlfjkphlaa

/- The document's ProgramOf. -/
namespace Go.Proofs.Ytdennnlfjkphlaa
open Go.RowKit

/-- The cells of the first i instructions. -/
def flatI (M : Nat → IN) : Nat → List Value
  | 0 => []
  | i + 1 => flatI M i ++ [.int .i64 (M i).op, .int .i64 (M i).jt, .int .i64 (M i).jf, .int .u32 (M i).k]
theorem flatI_len (M : Nat → IN) : ∀ i, (flatI M i).length = i * 4
  | 0 => rfl
  | i + 1 => by rw [flatI, List.length_append, flatI_len M i]; simp; omega
theorem flatI_get (M : Nat → IN) : ∀ n i j, i < n → j < 4 → (flatI M n)[i * 4 + j]? = some (insCell (M i) j)
  | n + 1, i, j, hi, hj => by
    rw [flatI, List.getElem?_append, flatI_len]
    by_cases h : i < n
    · rw [if_pos (by omega)]; exact flatI_get M n i j h hj
    · obtain rfl : i = n := by omega
      rw [if_neg (by omega), show i * 4 + j - i * 4 = j by omega]
      have hc : j = 0 ∨ j = 1 ∨ j = 2 ∨ j = 3 := by omega
      rcases hc with rfl | rfl | rfl | rfl <;> rfl
theorem prog_owned {W : World} {base n : Nat} {v : Value} {M : Nat → IN} (h : W.ownsRow base 78 4 v n (flatI M n)) (hok : ∀ i, i < n → InOk (M i)) : ∃ oa cap, v = .slice oa n cap ∧ IsProg oa n M W := by
  rcases Go.Joins.ownsRow_forms h with ⟨rfl, rfl⟩ | ⟨g, cap, rfl⟩
  · exact ⟨none, 0, rfl, ⟨fun h0 => absurd h0 (Nat.lt_irrefl 0)⟩⟩
  · refine ⟨_, _, rfl, ⟨fun h0 => ⟨g, 0, rfl, (h.lt g rfl).2, fun i hi => ?_⟩⟩⟩
    have hc := fun j (hj : j < 4) => h.cells (g := g) rfl (i * 4 + j) _ (flatI_get M n i j hi hj)
    have e := fun j => show (⟨g, 0, none⟩ : Addr).add (i * 4 + j) = ⟨g, 0 + i * 4 + j, none⟩ by unfold Addr.add; split <;> simp_all
    exact ⟨by have := hc 0 (by omega); rw [e 0] at this; exact this, by have := hc 1 (by omega); rw [e 1] at this; exact this, by have := hc 2 (by omega); rw [e 2] at this; exact this, by have := hc 3 (by omega); rw [e 3] at this; exact this, hok i hi⟩

/-- Four bytes from o on, the highest first, m of them. -/
def kDn (s : ByteArray) (o : Nat) : Nat → Nat
  | 0 => 0
  | m + 1 => kDn s o m * 256 + byteAt s (o + 3 - m)
theorem kDn_all (s : ByteArray) (o : Nat) : kDn s o 4 = kTo s o 4 := by
  simp only [kDn, kTo]
  simp only [Nat.add_zero, Nat.zero_mul, Nat.zero_add, Nat.sub_zero, Nat.pow_zero, Nat.mul_one, Nat.reducePow]
  rw [show o + 3 - 1 = o + 2 by omega, show o + 3 - 2 = o + 1 by omega, show o + 3 - 3 = o by omega]
  omega
theorem kDn_lt (s : ByteArray) (o : Nat) : ∀ m, kDn s o m < 256 ^ m
  | 0 => Nat.one_pos
  | m + 1 => by
    have h1 := kDn_lt s o m
    have h2 := byteAt_lt s (o + 3 - m)
    rw [kDn, Nat.pow_succ]
    omega

theorem rof_short (s : ByteArray) (hs : 32768 < s.size ∨ s.size % 8 ≠ 0) (hm : s.size ≤ 9223372036854775807) (w : World) :
    Calls Try.prog 53 #[.string s] w fun e w' => e = .returned (.tuple #[.slice none 0 0, .bool false]) ∧ Below w.heap.size w w' := by
  by_cases h8 : s.size % 8 = 0
  · have d8 : (s.size : Int) % 8 = 0 := by omega
    have h3 : 32768 < s.size := by omega
    go_enter Try.func53, Try.ntmps53
    go_wp2
    go_ret2
    exact ⟨rfl, Below.refl _ _⟩
  · have d8 : 0 < (s.size : Int) % 8 := by omega
    go_enter Try.func53, Try.ntmps53
    go_wp2
    go_ret2
    exact ⟨rfl, Below.refl _ _⟩

set_option maxRecDepth 100000 in
set_option maxHeartbeats 4000000 in
theorem rof_any (s : ByteArray) (n : Nat) (hn : s.size = 8 * n) (hm : n ≤ 4096) (w : World) :
    Calls Try.prog 53 #[.string s] w fun e w' => Below w.heap.size w w' ∧ ((checkR n (progOf s) = 0 ∧ strB (progB (progOf s) n) = s ∧ ∃ oa cap, e = .returned (.tuple #[.slice oa n cap, .bool true]) ∧ IsProg oa n (progOf s) w') ∨
      (¬ (checkR n (progOf s) = 0 ∧ strB (progB (progOf s) n) = s) ∧ e = .returned (.tuple #[.slice none 0 0, .bool false]))) := by
  have d8 : (s.size : Int) % 8 = 0 := by omega
  have d3 : decide ((32768 : Int) < (s.size : Int)) = false := by simp; omega
  obtain ⟨inf, hi0, hz0, hz1, hz2⟩ := info_ins
  have hsz : s.size ≤ 32768 := by omega
  replace hn := hide hn
  go_enter Try.func53, Try.ntmps53
  go_wp2
  clear d8
  go_loopw [4, 5] (fun V I wr => ∃ i q : Nat, i ≤ n ∧ I = .int .i64 q ∧ q ≤ s.size ∧ Hid (q = 8 * i) ∧ Hid (wr.ownsRow w.heap.size 78 4 V i (flatI (progOf s) i)) ∧ Hid (Below w.heap.size w wr)) (fun _ I _ => s.size - (intOf I).toNat)
  case atStart => exact ⟨0, 0, by omega, rfl, by omega, hide rfl, hide (World.ownsRow_nil _ _ _ _), hide (Below.refl _ _)⟩
  case round =>
    obtain ⟨i, q, hi, rfl, hq, HQ, HR, HB⟩ := hrel
    by_cases hlt : i < n
    · have hbs := HB.out.size
      have hq8 : q + 8 ≤ s.size := by have := HQ.out; have := hn.out; omega
      have hqi : (0 : Int) ≤ (q : Int) := Int.natCast_nonneg _
      have hq0 : (q : Int) < (s.size : Int) := by omega
      have hq2 : (q : Int) + 2 < (s.size : Int) := by omega
      have hq3 : (q : Int) + 3 < (s.size : Int) := by omega
      have dl : decide ((q : Int) < (s.size : Int)) = true := by simp; omega
      go_wp2
      obtain ⟨wo, hwo⟩ : ∃ wo : World, wo = wr := ⟨_, rfl⟩
      rw [← hwo] at HR HB hbs ⊢
      clear hwo
      go_loopw [6, 7] (fun K N wr => ∃ m : Nat, m ≤ 4 ∧ N = .int .i64 (7 - (m : Int)) ∧ K = .int .u32 (kDn s (q + 4) m) ∧ wr = wo) (fun _ N _ => (intOf N).toNat)
      case atStart => exact ⟨0, by omega, rfl, rfl, rfl⟩
      case round =>
        obtain ⟨m, hm4, rfl, rfl, rfl⟩ := hrel
        have hcase : m = 0 ∨ m = 1 ∨ m = 2 ∨ m = 3 ∨ m = 4 := by omega
        rcases hcase with rfl | rfl | rfl | rfl | rfl
        · have bb := byteAt_eq s (q + 7) (by omega)
          have lb := byteAt_lt s (q + 7)
          have HK := hide (show kDn s (q + 4) (0 + 1) = kDn s (q + 4) 0 * 256 + byteAt s (q + 7) by show kDn s (q + 4) 0 * 256 + byteAt s (q + 4 + 3 - 0) = _; rw [show q + 4 + 3 - 0 = q + 7 by omega])
          have lk := kDn_lt s (q + 4) 0
          simp only [Nat.reducePow] at lk
          obtain ⟨y, hy⟩ : ∃ y, y = byteAt s (q + 7) := ⟨_, rfl⟩
          obtain ⟨z, hz⟩ : ∃ z, z = kDn s (q + 4) 0 := ⟨_, rfl⟩
          rw [← hy] at bb lb HK
          rw [← hz] at lk HK ⊢
          clear hy hz
          go_wp2
          go_round
          case rel => exact ⟨0 + 1, by omega, by go_num, by rw [HK.out]; go_num, trivial⟩
          case measure => simp [intOf]
        · have bb := byteAt_eq s (q + 6) (by omega)
          have lb := byteAt_lt s (q + 6)
          have HK := hide (show kDn s (q + 4) (1 + 1) = kDn s (q + 4) 1 * 256 + byteAt s (q + 6) by show kDn s (q + 4) 1 * 256 + byteAt s (q + 4 + 3 - 1) = _; rw [show q + 4 + 3 - 1 = q + 6 by omega])
          have lk := kDn_lt s (q + 4) 1
          simp only [Nat.reducePow] at lk
          obtain ⟨y, hy⟩ : ∃ y, y = byteAt s (q + 6) := ⟨_, rfl⟩
          obtain ⟨z, hz⟩ : ∃ z, z = kDn s (q + 4) 1 := ⟨_, rfl⟩
          rw [← hy] at bb lb HK
          rw [← hz] at lk HK ⊢
          clear hy hz
          go_wp2
          go_round
          case rel => exact ⟨1 + 1, by omega, by go_num, by rw [HK.out]; go_num, trivial⟩
          case measure => simp [intOf]
        · have bb := byteAt_eq s (q + 5) (by omega)
          have lb := byteAt_lt s (q + 5)
          have HK := hide (show kDn s (q + 4) (2 + 1) = kDn s (q + 4) 2 * 256 + byteAt s (q + 5) by show kDn s (q + 4) 2 * 256 + byteAt s (q + 4 + 3 - 2) = _; rw [show q + 4 + 3 - 2 = q + 5 by omega])
          have lk := kDn_lt s (q + 4) 2
          simp only [Nat.reducePow] at lk
          obtain ⟨y, hy⟩ : ∃ y, y = byteAt s (q + 5) := ⟨_, rfl⟩
          obtain ⟨z, hz⟩ : ∃ z, z = kDn s (q + 4) 2 := ⟨_, rfl⟩
          rw [← hy] at bb lb HK
          rw [← hz] at lk HK ⊢
          clear hy hz
          go_wp2
          go_round
          case rel => exact ⟨2 + 1, by omega, by go_num, by rw [HK.out]; go_num, trivial⟩
          case measure => simp [intOf]
        · have bb := byteAt_eq s (q + 4) (by omega)
          have lb := byteAt_lt s (q + 4)
          have HK := hide (show kDn s (q + 4) (3 + 1) = kDn s (q + 4) 3 * 256 + byteAt s (q + 4) by show kDn s (q + 4) 3 * 256 + byteAt s (q + 4 + 3 - 3) = _; rw [show q + 4 + 3 - 3 = q + 4 by omega])
          have lk := kDn_lt s (q + 4) 3
          simp only [Nat.reducePow] at lk
          obtain ⟨y, hy⟩ : ∃ y, y = byteAt s (q + 4) := ⟨_, rfl⟩
          obtain ⟨z, hz⟩ : ∃ z, z = kDn s (q + 4) 3 := ⟨_, rfl⟩
          rw [← hy] at bb lb HK
          rw [← hz] at lk HK ⊢
          clear hy hz
          go_wp2
          go_round
          case rel => exact ⟨3 + 1, by omega, by go_num, by rw [HK.out]; go_num, trivial⟩
          case measure => simp [intOf]
        · have b0 := byteAt_eq s q (by omega)
          have b2 := byteAt_eq s (q + 2) (by omega)
          have b3 := byteAt_eq s (q + 3) (by omega)
          have l0 := byteAt_lt s q
          have l2 := byteAt_lt s (q + 2)
          have l3 := byteAt_lt s (q + 3)
          have HX := hide (show progOf s i = ⟨byteAt s q, byteAt s (q + 2), byteAt s (q + 3), kDn s (q + 4) 4⟩ by unfold progOf insAt; rw [kDn_all, HQ.out])
          obtain ⟨x0, hx0⟩ : ∃ x, x = byteAt s q := ⟨_, rfl⟩
          obtain ⟨x2, hx2⟩ : ∃ x, x = byteAt s (q + 2) := ⟨_, rfl⟩
          obtain ⟨x3, hx3⟩ : ∃ x, x = byteAt s (q + 3) := ⟨_, rfl⟩
          obtain ⟨k, hk⟩ : ∃ k, k = kDn s (q + 4) 4 := ⟨_, rfl⟩
          rw [← hx0] at b0 l0 HX
          rw [← hx2] at b2 l2 HX
          rw [← hx3] at b3 l3 HX
          rw [← hk] at HX ⊢
          clear hx0 hx2 hx3 hk
          have hw2 : IntKind.i64.wrap ((q : Int) + 2) = (q : Int) + 2 := by rw [IntKind.wrap_i64]; omega
          have hw3 : IntKind.i64.wrap ((q : Int) + 3) = (q : Int) + 3 := by rw [IntKind.wrap_i64]; omega
          have HV0 := hide (show IntKind.i64.wrap (x0 : Int) = (x0 : Int) by rw [IntKind.wrap_i64]; omega)
          have HV2 := hide (show ∀ h : ((q : Int) + 2).toNat < s.size, IntKind.i64.wrap (((s[((q : Int) + 2).toNat]'h).toNat : Nat) : Int) = (x2 : Int) from fun h => by
            have e : (s[((q : Int) + 2).toNat]'h) = s[q + 2] := by congr 1
            rw [e, b2, IntKind.wrap_i64]
            omega)
          have HV3 := hide (show ∀ h : ((q : Int) + 3).toNat < s.size, IntKind.i64.wrap (((s[((q : Int) + 3).toNat]'h).toNat : Nat) : Int) = (x3 : Int) from fun h => by
            have e : (s[((q : Int) + 3).toNat]'h) = s[q + 3] := by congr 1
            rw [e, b3, IntKind.wrap_i64]
            omega)
          go_wp2_with fail
          go_region_held3 (fun _ => True) (trivial)
            ((refine step_append_lies _ (by rfl) _ _ _ (by rfl) w.heap.size 78 inf _ 4 32 Try.underlying76 hi0 hz0 hz1 hz2 rfl (by omega) u4 i (flatI (progOf s) i) (by rfl) ((HR.out.alloc _).drew)
                ⟨wr.heap.size, 0, none⟩ 1 1 [.int .i64 x0, .int .i64 x2, .int .i64 x3, .int .u32 k] (by rfl) (by rfl) (World.news_of_block (cs := #[.int .i64 x0, .int .i64 x2, .int .i64 x3, .int .u32 k]) (t := 78) (fr := (0, 0)) (by simp only [HV0.out, HV2.out, HV3.out]; exact heap_alloc_new wr _)) (by simp [Value.oneCell'])
                (by omega) (by simp only [maxLen]; omega) (by omega) (by simp; omega) (wr.heap.size + 1) (by simp) ?_; intro gg cap1 w1 hown1 hgrow hat hltt))
          all_goals
            simp only [HV0.out, HV2.out, HV3.out]
            have HB1 := hide (show Below w.heap.size w w1 from (((HB.out.alloc hbs _).drew).grown hgrow (by simp; omega) fun k hk => (HR.out.lt k hk).1))
            have HO1 := hide (show w1.ownsRow w.heap.size 78 4 (.slice (some ⟨gg, 0, none⟩) (i + 1) cap1) (i + 1) (flatI (progOf s) (i + 1)) by rw [flatI, HX.out]; exact hown1)
            have HQ1 := hide (show q + 8 = 8 * (i + 1) by have := HQ.out; omega)
            clear hown1 hgrow hat hltt
            go_wp2
            go_round
            case rel => exact ⟨i + 1, q + 8, by omega, by go_num, by omega, HQ1, HO1, HB1⟩
            case measure => simp [intOf]; omega
    · obtain rfl : i = n := by omega
      obtain rfl : q = s.size := by have := HQ.out; have := hn.out; omega
      obtain ⟨oa, cap, rfl, hP⟩ := prog_owned HR.out (fun j _ => insAt_ok s _)
      have HP := hide hP
      have HC := rfault_any oa i cap (by omega) (progOf s) wr hP
      clear hP
      by_cases hc : checkR i (progOf s) = 0
      · rw [hc] at HC
        have HY := fun w' h => rbytes_ok oa i cap (progOf s) w' h hc
        by_cases he : strB (progB (progOf s) i) = s
        · rw [he] at HY
          go_wp2_with fail
          refine HC.mono ?_
          rintro e w2 ⟨rfl, hb2⟩
          replace hb2 := hide hb2
          go_wp2_with fail
          refine (HY _ (HP.out.on hb2.out)).mono ?_
          rintro e w3 ⟨rfl, hb3⟩
          replace hb3 := hide (below_next hb2.out hb3)
          go_wp2
          go_ret2
          exact ⟨below_next HB.out hb3.out, .inl ⟨hc, he, oa, cap, rfl, HP.out.on hb3.out⟩⟩
        · have hne : ((strB (progB (progOf s) i)).toList == s.toList) = false := by
            rw [Lib.toList_data, Lib.toList_data, beq_eq_false_iff_ne]
            intro h
            exact he (congrArg ByteArray.mk (Array.toList_inj.1 h))
          obtain ⟨t, ht⟩ : ∃ t, t = strB (progB (progOf s) i) := ⟨_, rfl⟩
          rw [← ht] at HY hne
          have HN := hide he
          have HCC := hide hc
          clear he ht hc
          go_wp2_with fail
          refine HC.mono ?_
          rintro e w2 ⟨rfl, hb2⟩
          replace hb2 := hide hb2
          go_wp2_with fail
          refine (HY _ (HP.out.on hb2.out)).mono ?_
          rintro e w3 ⟨rfl, hb3⟩
          replace hb3 := hide (below_next hb2.out hb3)
          go_wp2
          go_ret2
          exact ⟨below_next HB.out hb3.out, .inr ⟨fun h => HN.out h.2, rfl⟩⟩
      · have hpos : (0 : Int) < (checkR i (progOf s) : Int) := by omega
        obtain ⟨f, hf⟩ : ∃ f, f = checkR i (progOf s) := ⟨_, rfl⟩
        rw [← hf] at HC hpos
        have HCC := hide hc
        clear hf hc
        go_wp2_with fail
        refine HC.mono ?_
        rintro e w2 ⟨rfl, hb2⟩
        replace hb2 := hide hb2
        go_wp2
        go_ret2
        exact ⟨below_next HB.out hb2.out, .inr ⟨fun h => HCC.out h.1, rfl⟩⟩
end Go.Proofs.Ytdennnlfjkphlaa

/- The document's Run. -/
namespace Go.Proofs.Ytdennnlfjkphlaa
open Go.RowKit

theorem skip_jump {y : IN} (h : y.op = 3) (x : Nat) : skipI y x = (y.k : Int) := by unfold skipI; rw [h]; rfl
theorem skip_turn {y : IN} (h : y.op ≠ 3) (x : Nat) : skipI y x = if holdsB y x then y.jt else y.jf := by unfold skipI; rw [if_neg (by rw [beq_iff_eq]; exact h)]

set_option maxRecDepth 20000 in
set_option maxHeartbeats 4000000 in
theorem rrun_ok (oa : Option Addr) (n cap : Nat) (L : Nat → IN) (c : CL) (hc : ClOk c) (w : World) (h : IsProg oa n L w) (hf : checkR n L = 0) :
    Calls Try.prog 50 #[.slice oa n cap, callV c] w fun e w' => e = .returned (.tuple #[.int .u32 (runR L c n 0 0 0).1, .int .i64 (runR L c n 0 0 0).2]) ∧ Below w.heap.size w w' := by
  have HF := hide (fit_of hf)
  have hpos := HF.out.pos
  have hmost := HF.out.most
  have HR := record_any c hc
  unfold callV at HR ⊢
  obtain ⟨b, off, rfl, hb, hA0⟩ := h.lie hpos
  have HA := hide hA0
  obtain ⟨R, hR⟩ : ∃ R, R = runR L c n 0 0 0 := ⟨_, rfl⟩
  rw [← hR]
  replace hR := hide hR
  clear h hA0 hf
  go_enter Try.func50, Try.ntmps50
  go_wp2_with fail
  refine (HR _).mono ?_
  rintro e w1 ⟨rfl, hb1⟩
  replace hb1 := hide (below_next (box_below w _) hb1)
  clear HR
  obtain ⟨W0, hW0⟩ : ∃ W0, W0 = w1.alloc (.cells (recA c 4) 125) := ⟨_, rfl⟩
  have HW := hide hW0
  have HG := hide (show ∀ i, i < 10 → W0.cell? ⟨w1.heap.size, i, none⟩ = some (.int .u32 (wordN c i)) from fun i hi => by
    rw [hW0]
    exact (cell_of_row (w1.alloc (.cells (recA c 4) 125)) w1.heap.size i _ _ _ (heap_alloc_new w1 _)).trans (rec_get c i hi))
  have hB0 := hide (show Below w.heap.size w W0 by rw [hW0]; exact below_next hb1.out (box_below _ _))
  have hg0 : w1.heap.size < W0.heap.size := by rw [hW0]; simp
  clear hW0
  obtain ⟨g, hg⟩ : ∃ g, g = w1.heap.size := ⟨_, rfl⟩
  rw [← hg] at HG hg0
  simp only [recA]
  go_wp2
  rw [← hg]
  replace hg := hide hg
  go_loopw [7, 8, 9] (fun N P I w' => ∃ d p x : Nat, d < n ∧ N = .int .u32 x ∧ P = .int .i64 p ∧ I = .int .i64 (d + 1 : Nat) ∧ p < n ∧ Hid (x < 4294967296) ∧ Hid (d ≤ p) ∧ Hid (runR L c (n - d) p x d = R) ∧ Hid (Below W0.heap.size W0 w')) (fun _ P _ _ => n - (intOf P).toNat)
  case atStart => exact ⟨0, 0, 0, hpos, rfl, rfl, rfl, hpos, hide (by decide), hide (Nat.le_refl _), hide hR.out.symm, hide (by rw [HW.out]; exact Below.refl _ _)⟩
  case round =>
    obtain ⟨d, p, x, hd, rfl, rfl, rfl, hp, HX, HD, HRR, HB⟩ := hrel
    have hI := (HA.out p hp).on fun j => (bcell (hB0.out.trans (HB.out.mono hB0.out.size))).1 b j hb
    have HN := hide (fun h8 => HF.out.next hp h8)
    have HS := hide (fun h8 h1 h2 => HF.out.skip hp h8 h1 h2 x)
    have HE := hide (fine_ins (HF.out.each p hp))
    have hgw : g < wr.heap.size := Nat.lt_of_lt_of_le hg0 HB.out.size
    have HGc := hide (fun i hi => (HB.out.cell (p := ⟨g, i, none⟩) hg0).trans (HG.out i hi))
    have hok := hI.ok
    have hRR := HRR.out
    rw [show n - d = (n - d - 1) + 1 by omega, runR, show n - d - 1 = n - (d + 1) by omega] at hRR
    obtain ⟨y, hy⟩ : ∃ y, y = L p := ⟨_, rfl⟩
    rw [← hy] at hI HN HS HE hok hRR
    clear hy HRR
    obtain ⟨c0, c1, c2, c3, _⟩ := hI
    by_cases h8 : y.op = 8
    · rw [if_pos h8] at hRR
      replace hRR := hide hRR
      obtain ⟨op, jt, jf, k⟩ := y
      simp only at h8 c0 c1 c2 c3
      subst h8
      clear HN HS HE hok
      go_wp2
      go_ret2
      exact ⟨by rw [← hRR.out]; rfl, below_next hB0.out (below_next HB.out (box_below wr _))⟩
    have hnx := HN.out h8
    have hdp := HD.out
    by_cases h1 : y.op = 1
    · rw [if_neg h8, if_pos h1] at hRR
      replace hRR := hide hRR
      have hpl := HE.out.2.2.2.2.2.2.2.1 h1
      obtain ⟨op, jt, jf, k⟩ := y
      simp only at h1 c0 c1 c2 c3 hpl
      subst h1
      have hk10 : k / 4 < 10 := by rcases place_cases hpl with h | h | h | h | h | h | h | h | h | h <;> omega
      have cw := HGc.out (k / 4) hk10
      have hk40 : k < 40 := by omega
      clear HN HS HE h8 hok hpl
      go_wp2
      go_round
      case rel => exact ⟨d + 1, p + 1, _, by omega, rfl, by go_num, by go_num, hnx, hide (wordN_lt c hc _), hide (by omega), hRR, hide (below_next HB.out (box_below wr _))⟩
      case measure => simp [intOf]; omega
    by_cases h2 : y.op = 2
    · rw [if_neg h8, if_neg h1, if_pos h2] at hRR
      replace hRR := hide hRR
      have hbit := u32_and_nat x y.k HX.out hok.k2
      obtain ⟨op, jt, jf, k⟩ := y
      simp only at h2 c0 c1 c2 c3 hbit
      subst h2
      have HL := hide (show x &&& k < 4294967296 from Nat.lt_of_le_of_lt Nat.and_le_left HX.out)
      clear HN HS HE h8 h1 hok
      go_wp2
      go_round
      case rel => exact ⟨d + 1, p + 1, _, by omega, rfl, by go_num, by go_num, hnx, HL, hide (by omega), hRR, hide (below_next HB.out (box_below wr _))⟩
      case measure => simp [intOf]; omega
    rw [if_neg h8, if_neg h1, if_neg h2] at hRR
    obtain ⟨hs0, hs1⟩ := HS.out h8 h1 h2
    have hk := hok.k2
    by_cases h3 : y.op = 3
    · rw [skip_jump h3] at hRR hs0 hs1
      rw [Int.toNat_natCast] at hRR hs1
      replace hRR := hide hRR
      obtain ⟨op, jt, jf, k⟩ := y
      simp only at h3 c0 c1 c2 c3 hs1 hk
      subst h3
      clear HN HS HE h8 h1 h2 hok hs0
      go_wp2
      go_round
      case rel => exact ⟨d + 1, p + 1 + k, x, by omega, rfl, by go_num, by go_num, hs1, HX, hide (by omega), hRR, hide (below_next HB.out (box_below wr _))⟩
      case measure => simp [intOf]; omega
    · have hr := HE.out
      rw [skip_turn h3] at hRR hs0 hs1
      have hbit := u32_and_nat x y.k HX.out hok.k2
      obtain ⟨op, jt, jf, k⟩ := y
      simp only at h8 h1 h2 h3 c0 c1 c2 c3 hs0 hs1 hk hRR hr hbit
      obtain ⟨r1, r2, r3, r4, r5, r6, _⟩ := hr
      obtain ⟨jt', rfl⟩ : ∃ m : Nat, jt = m := ⟨jt.toNat, by omega⟩
      obtain ⟨jf', rfl⟩ : ∃ m : Nat, jf = m := ⟨jf.toNat, by omega⟩
      have hop : op = 4 ∨ op = 5 ∨ op = 6 ∨ op = 7 := by omega
      clear HN HS HE h8 h1 h2 h3 hok
      have HSK := hide (And.intro hRR hs1)
      clear hRR hs0 hs1
      cases hh : holdsB ⟨op, (jt' : Int), (jf' : Int), k⟩ x with
      | true =>
        obtain ⟨hRR, hs1⟩ := HSK.out
        rw [hh, if_pos rfl, Int.toNat_natCast] at hRR hs1
        replace hRR := hide hRR
        clear HSK
        rcases hop with rfl | rfl | rfl | rfl
        all_goals
          simp [holdsB] at hh
          go_wp2
          go_round
          case rel => exact ⟨d + 1, p + 1 + jt', x, by omega, rfl, by go_num, by go_num, hs1, HX, hide (by omega), hRR, hide (below_next HB.out (box_below wr _))⟩
          case measure => simp [intOf]; omega
      | false =>
        obtain ⟨hRR, hs1⟩ := HSK.out
        rw [hh, if_neg (by decide), Int.toNat_natCast] at hRR hs1
        replace hRR := hide hRR
        clear HSK
        rcases hop with rfl | rfl | rfl | rfl
        all_goals
          simp [holdsB] at hh
          go_wp2
          go_round
          case rel => exact ⟨d + 1, p + 1 + jf', x, by omega, rfl, by go_num, by go_num, hs1, HX, hide (by omega), hRR, hide (below_next HB.out (box_below wr _))⟩
          case measure => simp [intOf]; omega
end Go.Proofs.Ytdennnlfjkphlaa

/- The closed fact; the walk of the law BpfReads. -/
namespace Go.Proofs.Ytdennnlfjkphlaa
open Go.RowKit

/-- The program of the closed fact. -/
def factP (i : Nat) : IN := if i = 0 then ⟨1, 0, 0, 0⟩ else if i = 1 then ⟨4, 1, 0, 5⟩ else if i = 2 then ⟨8, 0, 0, 1⟩ else ⟨8, 0, 0, 2⟩
def factC : CL := ⟨0, 5, 0, 0, 0, 0⟩
theorem factC_ok : ClOk factC := ⟨by decide, by decide, by decide, by decide, by decide, by decide⟩
theorem fact_check : checkR 4 factP = 0 := by decide +kernel
theorem fact_run : runR factP factC 4 0 0 0 = (2, 3) := by decide +kernel
theorem fact_prog (w : World) : IsProg (some ⟨w.heap.size, 0, none⟩) 4 factP (w.alloc (.cells #[.int .i64 1, .int .i64 0, .int .i64 0, .int .u32 0, .int .i64 4, .int .i64 1, .int .i64 0, .int .u32 5, .int .i64 8, .int .i64 0, .int .i64 0, .int .u32 1, .int .i64 8, .int .i64 0, .int .i64 0, .int .u32 2] 78)) :=
  ⟨fun _ => ⟨w.heap.size, 0, rfl, by simp, fun i hi => by
    have h := fun j => cell_of_row (w.alloc (.cells #[.int .i64 1, .int .i64 0, .int .i64 0, .int .u32 0, .int .i64 4, .int .i64 1, .int .i64 0, .int .u32 5, .int .i64 8, .int .i64 0, .int .i64 0, .int .u32 1, .int .i64 8, .int .i64 0, .int .i64 0, .int .u32 2] 78)) w.heap.size j _ _ _ (heap_alloc_new w _)
    have hc : i = 0 ∨ i = 1 ∨ i = 2 ∨ i = 3 := by omega
    rcases hc with rfl | rfl | rfl | rfl
    · exact ⟨h 0, h 1, h 2, h 3, ⟨by decide, by decide, by decide, by decide, by decide, by decide, by decide⟩⟩
    · exact ⟨h 4, h 5, h 6, h 7, ⟨by decide, by decide, by decide, by decide, by decide, by decide, by decide⟩⟩
    · exact ⟨h 8, h 9, h 10, h 11, ⟨by decide, by decide, by decide, by decide, by decide, by decide, by decide⟩⟩
    · exact ⟨h 12, h 13, h 14, h 15, ⟨by decide, by decide, by decide, by decide, by decide, by decide, by decide⟩⟩⟩⟩

theorem returns_any (w : World) : Calls Try.prog 42 #[] w fun e w' => e = .returned (.bool true) ∧ Below w.heap.size w w' := by
  have HR := run_ok (some ⟨w.heap.size, 0, none⟩) 4 4 factP factC factC_ok _ (fact_prog w) fact_check
  rw [fact_run] at HR
  unfold callV at HR
  simp only [factC] at HR
  go_enter Try.func42, Try.ntmps42
  go_wp2_with fail
  refine HR.mono ?_
  rintro e w1 ⟨rfl, hb1⟩
  replace hb1 := hide (below_next (box_below w _) hb1)
  go_wp2_with (go_at_call 11; refine (same_nil _ _).mono ?_; rintro e w' ⟨rfl, rfl⟩)
  go_ret
  exact ⟨rfl, hb1.out⟩

theorem strB_size (l : List Nat) : (strB l).size = l.length := by unfold strB; show (l.map UInt8.ofNat).toArray.size = _; simp
theorem sameTo_self (L : Nat → IN) (n : Nat) : sameTo L L n = true := by
  unfold sameTo
  rw [List.all_eq_true]
  intro j _
  simp [sameIns]

theorem bpfReads_any (s : ByteArray) (hm : s.size ≤ 9223372036854775807) (w : World) : Calls Try.prog 8 #[.string s] w fun e w' => e = .returned (.bool true) ∧ Below w.heap.size w w' := by
  by_cases hl : 2000 < s.size
  · have dl : decide ((2000 : Int) < (s.size : Int)) = true := by simp; omega
    go_enter Try.func8, Try.ntmps8
    go_wp2_with fail
    refine (returns_any _).mono ?_
    rintro e w1 ⟨rfl, hb1⟩
    go_wp2
    go_ret
    exact ⟨rfl, hb1⟩
  have dl : decide ((2000 : Int) < (s.size : Int)) = false := by simp; omega
  have HP := hide (fun w => parse_any s (by omega) w)
  by_cases hp : checkR (s.size / 8) (progOf s) = 0 ∧ strB (progB (progOf s) (s.size / 8)) = s
  · have h8 : s.size = 8 * (s.size / 8) := by
      have h := congrArg ByteArray.size hp.2
      rw [strB_size, progB_len] at h
      exact h.symm
    have HO := hide (fun w => rof_any s (s.size / 8) h8 (by omega) w)
    have HQ := hide hp
    obtain ⟨n, hn⟩ : ∃ n, n = s.size / 8 := ⟨_, rfl⟩
    rw [← hn] at HP HO HQ
    have hn2 : n ≤ 250 := by omega
    clear hn h8 hp
    go_enter Try.func8, Try.ntmps8
    go_wp2_with fail
    refine (returns_any _).mono ?_
    rintro e w1 ⟨rfl, hb1⟩
    replace hb1 := hide hb1
    go_wp2_with fail
    refine (HP.out _).mono ?_
    rintro e w2 ⟨hb2, h2 | h2⟩
    case inr => exact absurd HQ.out h2.1
    obtain ⟨_, _, g, rfl, hA⟩ := h2
    replace hA := hide hA
    replace hb2 := hide (below_next hb1.out hb2)
    clear hb1
    go_wp2_with fail
    refine (HO.out _).mono ?_
    rintro e w3 ⟨hb3, h3 | h3⟩
    case inr => exact absurd HQ.out h3.1
    obtain ⟨_, _, oa, cap, rfl, hB⟩ := h3
    have HS := sameProg_any (some ⟨g, 0, none⟩) oa n n cap (by omega) (progOf s) (progOf s) w3 (hA.out.on hb3) hB
    rw [sameTo_self] at HS
    replace hb3 := hide (below_next hb2.out hb3)
    clear hb2 hA hB HP HO HQ
    go_wp2_with (go_at_call 11; refine (same_nil _ _).mono ?_; rintro e w' ⟨rfl, rfl⟩)
    refine HS.mono ?_
    rintro e w4 ⟨rfl, k, rfl⟩
    go_wp2
    go_ret
    exact ⟨rfl, below_drewN' hb3.out k⟩
  · have HO := hide (show ∀ w, Calls Try.prog 53 #[.string s] w fun e w' => e = .returned (.tuple #[.slice none 0 0, .bool false]) ∧ Below w.heap.size w w' from fun w => by
      by_cases h8 : s.size % 8 = 0
      · refine (rof_any s (s.size / 8) (by omega) (by omega) w).mono ?_
        rintro e w' ⟨hb, h | h⟩
        · exact absurd ⟨h.1, h.2.1⟩ hp
        · exact ⟨h.2, hb⟩
      · exact rof_short s (.inr h8) hm w)
    have HQ := hide hp
    clear hp
    go_enter Try.func8, Try.ntmps8
    go_wp2_with fail
    refine (returns_any _).mono ?_
    rintro e w1 ⟨rfl, hb1⟩
    replace hb1 := hide hb1
    go_wp2_with fail
    refine (HP.out _).mono ?_
    rintro e w2 ⟨hb2, h2 | h2⟩
    case inl => exact absurd ⟨h2.1, h2.2.1⟩ HQ.out
    obtain ⟨_, rfl⟩ := h2
    replace hb2 := hide (below_next hb1.out hb2)
    clear hb1
    go_wp2_with fail
    refine (HO.out _).mono ?_
    rintro e w3 ⟨rfl, hb3⟩
    replace hb3 := hide (below_next hb2.out hb3)
    clear hb2
    go_wp2_with (go_at_call 11; refine (same_errno 4 4 _).mono ?_; rintro e w' ⟨rfl, rfl⟩)
    go_ret
    exact ⟨rfl, hb3.out⟩
end Go.Proofs.Ytdennnlfjkphlaa

/- The last step of a law's row: what 'post' asks, out of 'Below' (nothing that was there has turned), without the limb on frozen cells that 'again' alone wants. -/
namespace Go.Proofs.Ytdennnlfjkphlaa
open Go.ChangeShapes Go.WideShapes Go.ChangeAt Go.RowKit

theorem post_law {H : Type} {enc : TypeId × Value → H} {P : Program} {f : Func} {s : ChangeSpec} {apart fresh handsOn : Bool} {W W' : World} {args : Array Value} {v : Value} {ds gs : List (DataW H)} {before pa pv : List MemPlace}
    (hW : DataW.Whole enc P f.params.toList s.vars apart W args.toList ds gs before)
    (hres : ∀ (b : Nat) (sp : Nat → Bool) (hd : Bool), DataW.TrodAll enc P W' b sp hd f.resultTypes.toList (v.resultList f.resultTypes.size) (s.fn H (ds ++ gs)).results [])
    (hargs : ∀ sp : Nat → Bool, (∀ p ∈ before, sp p.block = true) → DataW.TrodAll enc P W' 0 sp true f.params.toList args.toList (s.fn H (ds ++ gs)).args pa)
    (hvars : ∀ sp : Nat → Bool, (∀ p ∈ before, sp p.block = true) → DataW.TrodVars enc P W' sp s.vars (s.fn H (ds ++ gs)).vars pv)
    (hps : before = pa ++ pv) (hk : Below W.heap.size W W') :
    s.post enc P f apart fresh handsOn false W args v W' := by
  have hold : ∀ p ∈ before, (fun b => decide (b < W.heap.size)) p.block = true := fun p hp => by simpa using hW.lt p hp
  refine ⟨ds, gs, before, [], pa, pv, hW, hres _ _ _, hargs _ hold, hvars _ hold, World.keptBut_mono (fun p hp => ⟨hp, ?_⟩) (hk.frame (· ∈ before)), fun h => by cases h⟩
  rw [hps, List.mem_append] at hp
  exact Or.inr hp
end Go.Proofs.Ytdennnlfjkphlaa

/- What the rows over slices of structs need besides: the last step, and cells of elements. -/
namespace Go.Proofs.Ytdennnlfjkphlaa
open Go.ChangeShapes Go.WideShapes Go.ChangeAt Go.RowKit Go.WideMaps Go.WideElems

theorem own : ownKnob Try.prog.godebug = none := by kernel_rfl
theorem laidOut : laidOutB Try.prog = true := by kernel_rfl

/-- 'post_law', the arguments read again under the one mode that is asked. -/
theorem post_law' {H : Type} {enc : TypeId × Value → H} {P : Program} {f : Func} {s : ChangeSpec} {apart fresh handsOn : Bool} {W W' : World} {args : Array Value} {v : Value} {ds gs : List (DataW H)} {before pa pv : List MemPlace}
    (hW : DataW.Whole enc P f.params.toList s.vars apart W args.toList ds gs before)
    (hres : ∀ (b : Nat) (sp : Nat → Bool) (hd : Bool), DataW.TrodAll enc P W' b sp hd f.resultTypes.toList (v.resultList f.resultTypes.size) (s.fn H (ds ++ gs)).results [])
    (hargs : DataW.TrodAll enc P W' 0 (fun b => decide (b < W.heap.size)) true f.params.toList args.toList (s.fn H (ds ++ gs)).args pa)
    (hvars : ∀ sp : Nat → Bool, (∀ p ∈ before, sp p.block = true) → DataW.TrodVars enc P W' sp s.vars (s.fn H (ds ++ gs)).vars pv)
    (hps : before = pa ++ pv) (hk : Below W.heap.size W W') :
    s.post enc P f apart fresh handsOn false W args v W' := by
  have hold : ∀ p ∈ before, (fun b => decide (b < W.heap.size)) p.block = true := fun p hp => by simpa using hW.lt p hp
  refine ⟨ds, gs, before, [], pa, pv, hW, hres _ _ _, hargs, hvars _ hold, World.keptBut_mono (fun p hp => ⟨hp, ?_⟩) (hk.frame (· ∈ before)), fun h => by cases h⟩
  rw [hps, List.mem_append] at hp
  exact Or.inr hp

theorem u64_wf {n : Int} (h : (Lit.int .u64 n).wf = true) : ∃ k : Nat, n = k ∧ k < 18446744073709551616 := by
  simp [Lit.wf, IntKind.min, IntKind.max, IntKind.signed, IntKind.bits] at h
  exact ⟨n.toNat, by omega, by omega⟩
theorem i64_wf {n : Int} (h : (Lit.int .i64 n).wf = true) : -9223372036854775808 ≤ n ∧ n ≤ 9223372036854775807 := by
  simp [Lit.wf, IntKind.min, IntKind.max, IntKind.signed, IntKind.bits] at h
  omega

theorem u32_wf {n : Int} (h : (Lit.int .u32 n).wf = true) : ∃ k : Nat, n = k ∧ k < 4294967296 := by
  simp [Lit.wf, IntKind.min, IntKind.max, IntKind.signed, IntKind.bits] at h
  exact ⟨n.toNat, by omega, by omega⟩

/-- The cells of element i of a slice at a plain address. -/
theorem elem_cells {w : World} {b off k i : Nat} {cs : List Value} (h : w.cells? 0 ((⟨b, off, none⟩ : Addr).add (i * k)) k = some cs) (j : Nat) (hj : j < k) : w.cell? ⟨b, off + i * k + j, none⟩ = cs[j]? := by
  have hc := (World.cells?_some h).2.2 j hj
  rw [Go.Deep.add_add, add_plain] at hc
  rw [show off + i * k + j = off + (i * k + j) by omega]
  exact hc

end Go.Proofs.Ytdennnlfjkphlaa

namespace Go.Proofs.Ytdennnlfjkphlaa
open Go.ChangeShapes Go.WideShapes Go.ChangeAt Go.RowKit Go.WideMaps Go.WideElems
open Go.ChangeMaps (open_string shut_string)

set_option maxRecDepth 100000 in
theorem bpfReads_lifted (os : Os) (started : os.Started) (H : Type) (enc : TypeId × Value → H) :
    ReturnsInHanded {} Try.checked os 8 .any (Rows.bpfReadsSpec.pre6 enc Try.prog Try.f8 Rows.bpfReadsRow.domain false) (Rows.bpfReadsSpec.post enc Try.prog Try.f8 false true false false) := by
  refine returnsInHanded_of_change (C := Try.checked) own started (by kernel_rfl) Try.func8
    (ChangeSpec.witness6 (enc := enc) (C := Try.checked) false ⟨#[], #[.string .empty], []⟩ 8 (by kernel_rfl) (by kernel_rfl) (by kernel_rfl) (by kernel_rfl)) ?_
  intro W base args ds gs before hval0 hW hcnd _
  have hval : ∀ (j : Nat) t v, Try.f8.params[j]? = some t → args[j]? = some v → Value.okWide Try.prog W .any base t v := hval0
  have hW' := hW
  obtain ⟨p, q, hA0, hV, rfl, hfz, hnd⟩ := hW
  have hA : DataW.TrodAll enc Try.prog W 0 (fun _ => true) true Try.f8.params.toList args.toList ds p := hA0
  rw [Try.params8] at hA hval
  obtain ⟨v0, d0, rfl, rfl, h0⟩ := trodAll_one hA
  obtain ⟨rfl, rfl⟩ := trodVars_none hV
  obtain ⟨s0, rfl, rfl, rfl, hs0⟩ := open_string Try.underlying9 (hval 0 9 v0 rfl rfl) h0
  clear hA0 hval0
  simp only [List.append_nil] at hW'
  refine (bpfReads_any s0 (by unfold maxLen at hs0; omega) W).mono fun e W' ⟨he, hb⟩ => ?_
  subst he
  exact ⟨_, rfl, post_law (pa := []) (pv := []) hW' (fun _ _ _ => trodAll_mk1 (shut_bool Try.underlying4 _)) (fun sp _ => trodAll_mk1 (shut_string Try.underlying9 hs0)) (fun _ _ => rfl) rfl hb⟩

theorem bpfReads_holds : Rows.BpfReadsSaid :=
  OpenClaim.holds_of_wide 8 Try.f8 rfl rfl rfl rfl rfl rfl rfl ⟨rfl, rfl, rfl, rfl, rfl⟩ rfl rfl rfl rfl rfl (by kernel_rfl) Try.func8 (by kernel_rfl)
    (of_decide_eq_true (by kernel_rfl)) (by unfold Func.isWrapper; first | (rw [if_pos (by decide +kernel)]; kernel_rfl) | (rw [if_neg (by decide +kernel)]; exact ⟨rfl, rfl⟩))
    (fun os started H enc _ => bpfReads_lifted os started H enc)
#print axioms bpfReads_holds
end Go.Proofs.Ytdennnlfjkphlaa
