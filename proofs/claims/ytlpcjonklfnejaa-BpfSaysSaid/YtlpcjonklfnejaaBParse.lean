/- Parse. -/
import Derived.Test.YtlpcjonklfnejaaBRead
import Derived.Test.YtlpcjonklfnejaaMArr
namespace Go.Proofs.Ytlpcjonklfnejaa
open Go.RowKit

/-- The instructions of a text. -/
def progOf (s : ByteArray) (i : Nat) : IN := insAt s (8 * i)
def insCell (x : IN) (j : Nat) : Value := if j = 0 then .int .i64 x.op else if j = 1 then .int .i64 x.jt else if j = 2 then .int .i64 x.jf else .int .u32 x.k
def zeroIN : IN := ⟨0, 0, 0, 0⟩
/-- The cells of a list of which i are written. -/
def cellP (M : Nat → IN) (i j : Nat) : Value := insCell (if j / 4 < i then M (j / 4) else zeroIN) (j % 4)
theorem cellP_step (M : Nat → IN) (i : Nat) : updV (updV (updV (updV (cellP M i) (i * 4) (.int .i64 (M i).op)) (i * 4 + 1) (.int .i64 (M i).jt)) (i * 4 + 2) (.int .i64 (M i).jf)) (i * 4 + 3) (.int .u32 (M i).k) = cellP M (i + 1) := by
  funext j
  unfold updV
  by_cases h3 : j = i * 4 + 3
  · rw [if_pos h3]; unfold cellP; rw [if_pos (by omega), show j / 4 = i by omega, show j % 4 = 3 by omega]; rfl
  rw [if_neg h3]
  by_cases h2 : j = i * 4 + 2
  · rw [if_pos h2]; unfold cellP; rw [if_pos (by omega), show j / 4 = i by omega, show j % 4 = 2 by omega]; rfl
  rw [if_neg h2]
  by_cases h1 : j = i * 4 + 1
  · rw [if_pos h1]; unfold cellP; rw [if_pos (by omega), show j / 4 = i by omega, show j % 4 = 1 by omega]; rfl
  rw [if_neg h1]
  by_cases h0 : j = i * 4
  · rw [if_pos h0]; unfold cellP; rw [if_pos (by omega), show j / 4 = i by omega, show j % 4 = 0 by omega]; rfl
  rw [if_neg h0]
  unfold cellP
  by_cases hl : j / 4 < i
  · rw [if_pos hl, if_pos (by omega)]
  · rw [if_neg hl, if_neg (by omega)]

theorem info_ins : ∃ i, Try.prog.info? 78 = some i ∧ i.zero = some (.agg #[.int .i64 0, .int .i64 0, .int .i64 0, .int .u32 0]) ∧ i.size = 4 ∧ i.bytes = 32 := by
  have hz : (Try.prog.info? 78).map (·.zero) = some (some (.agg #[.int .i64 0, .int .i64 0, .int .i64 0, .int .u32 0])) := by kernel_rfl
  have hs : (Try.prog.info? 78).map (·.size) = some 4 := by kernel_rfl
  have hb : (Try.prog.info? 78).map (·.bytes) = some 32 := by kernel_rfl
  cases hq : Try.prog.info? 78 with
  | none => rw [hq] at hs; simp at hs
  | some i =>
    rw [hq] at hz hs hb
    simp at hz hs hb
    exact ⟨i, rfl, hz, hs, hb⟩
theorem made_ins (M : Nat → IN) (n : Nat) : madeCells (Value.agg #[.int .i64 0, .int .i64 0, .int .i64 0, .int .u32 0]).cells (n * 4) = VA (n * 4) (cellP M 0) := by
  apply Array.ext_getElem?
  intro j
  by_cases h : j < n * 4
  · rw [VA_get _ _ j h]
    unfold cellP
    rw [if_neg (by omega)]
    have hc : j % 4 = 0 ∨ j % 4 = 1 ∨ j % 4 = 2 ∨ j % 4 = 3 := by omega
    rcases hc with e | e | e | e <;> simp [madeCells, Value.cells, h, e, insCell, zeroIN]
  · have e1 : (madeCells (Value.agg #[.int .i64 0, .int .i64 0, .int .i64 0, .int .u32 0]).cells (n * 4))[j]? = none := by simp [size_madeCells]; omega
    rw [e1, VA_none _ _ j h]
/-- 'make([]Insn, n)'. -/
theorem wpList_make_ins {ops : Array Oper} {rest : List Oper} {o : Oper} {a : Act} {w : World} {Q : Exit → Act → World → Prop} (hgd : o.guard = none) (x y : Operand) (ho : o.op = .makeSlice 76 x y) (n : Nat) (M : Nat → IN)
    (hx : a.eval x = .int .i64 n) (hy : a.eval y = .int .i64 n) (hn : n ≤ 10000)
    (h : wpList Try.prog ops Q rest (a.put o.dst (.slice (some ⟨w.heap.size, 0, none⟩) n n)) (w.alloc (.cells (VA (n * 4) (cellP M 0)) 78))) : wpList Try.prog ops Q (o :: rest) a w := by
  obtain ⟨i, hi, hz, hs, hb⟩ := info_ins
  have hr := run_make (P := Try.prog) w 76 78 i _ Try.underlying76 hi hz .i64 .i64 (n : Int) (n : Int) (by omega) (by omega) (by rw [hb]; omega) (by omega)
  rw [hs, Int.toNat_natCast, made_ins M] at hr
  refine wpList_plain hgd fun _ hK => ?_
  unfold Oper.wp execOp
  simp only [ho, hx, hy, Sem.run_bind, hr, Result.andThen_ok]
  exact hK _ _ h

theorem byteAt_extract (s : ByteArray) (a j : Nat) (h : a + j < s.size) : byteAt (s.extract a s.size) j = byteAt s (a + j) := by
  unfold byteAt
  rw [Lib.extract_data, List.getD_eq_getElem?_getD, List.getD_eq_getElem?_getD, List.getElem?_take, if_pos (by omega), List.getElem?_drop]
theorem kTo_extract (s : ByteArray) (a o : Nat) : ∀ i, a + o + i ≤ s.size → kTo (s.extract a s.size) o i = kTo s (a + o) i
  | 0, _ => rfl
  | i + 1, h => by rw [kTo, kTo, kTo_extract s a o i (by omega), byteAt_extract s a (o + i) (by omega), Nat.add_assoc]
theorem insAt_extract (s : ByteArray) (a : Nat) (h : a + 8 ≤ s.size) : insAt (s.extract a s.size) 0 = insAt s a := by
  unfold insAt
  rw [byteAt_extract s a 0 (by omega), byteAt_extract s a (0 + 2) (by omega), byteAt_extract s a (0 + 3) (by omega), kTo_extract s a (0 + 4) 4 (by omega), Nat.zero_add, Nat.zero_add, Nat.zero_add, Nat.add_zero]
theorem insAt_ok (s : ByteArray) (o : Nat) : InOk (insAt s o) := by
  have h0 := byteAt_lt s o
  have h2 := byteAt_lt s (o + 2)
  have h3 := byteAt_lt s (o + 3)
  have h4 := kTo_lt s (o + 4) 4
  exact ⟨by simp only [insAt]; omega, by simp only [insAt]; omega, by simp only [insAt]; omega, by simp only [insAt]; omega, by simp only [insAt]; omega, by simp only [insAt]; omega, by simp only [insAt]; omega⟩

/-- A row of instructions is a program. -/
theorem prog_row {W : World} {g n : Nat} {M : Nat → IN} (h : W.heap[g]? = some (.cells (VA (n * 4) (cellP M n)) 78 (0, 0))) (hok : ∀ i, i < n → InOk (M i)) : IsProg (some ⟨g, 0, none⟩) n M W :=
  ⟨fun _ => ⟨g, 0, rfl, (Array.getElem?_eq_some_iff.1 h).1, fun i hi => by
    have hc := fun j (hj : j < 4) => (cell_of_row W g (0 + i * 4 + j) _ _ _ h).trans (VA_get _ _ _ (show 0 + i * 4 + j < n * 4 by omega))
    have e := fun j (hj : j < 4) => show cellP M n (0 + i * 4 + j) = insCell (M i) j by unfold cellP; rw [if_pos (by omega), show (0 + i * 4 + j) / 4 = i by omega, show (0 + i * 4 + j) % 4 = j by omega]
    exact ⟨by have := hc 0 (by omega); rw [e 0 (by omega)] at this; exact this, by have := hc 1 (by omega); rw [e 1 (by omega)] at this; exact this, by have := hc 2 (by omega); rw [e 2 (by omega)] at this; exact this, by have := hc 3 (by omega); rw [e 3 (by omega)] at this; exact this, hok i hi⟩⟩⟩

theorem parse_long (s : ByteArray) (hs : 32768 < s.size) (hm : s.size ≤ 9223372036854775807) (w : World) :
    Calls Try.prog 51 #[.string s] w fun e w' => e = .returned (.tuple #[.slice none 0 0, .iface 98 (.int .i64 4)]) ∧ Below w.heap.size w w' := by
  go_enter Try.func51, Try.ntmps51
  go_wp2
  go_ret2
  exact ⟨rfl, Below.refl _ _⟩

set_option maxRecDepth 20000 in
set_option maxHeartbeats 2000000 in
theorem parse_any (s : ByteArray) (hs : s.size ≤ 32768) (w : World) :
    Calls Try.prog 51 #[.string s] w fun e w' => Below w.heap.size w w' ∧ ((checkR (s.size / 8) (progOf s) = 0 ∧ strB (progB (progOf s) (s.size / 8)) = s ∧ ∃ g, e = .returned (.tuple #[.slice (some ⟨g, 0, none⟩) (s.size / 8) (s.size / 8), .nilIface]) ∧ IsProg (some ⟨g, 0, none⟩) (s.size / 8) (progOf s) w') ∨
      (¬ (checkR (s.size / 8) (progOf s) = 0 ∧ strB (progB (progOf s) (s.size / 8)) = s) ∧ e = .returned (.tuple #[.slice none 0 0, .iface 98 (.int .i64 4)]))) := by
  obtain ⟨n, hn⟩ : ∃ n, n = s.size / 8 := ⟨_, rfl⟩
  rw [← hn]
  have hn8 : 8 * n ≤ s.size := by omega
  have hdiv : (s.size : Int) / 8 = (n : Int) := by omega
  have ds : decide ((32768 : Int) < (s.size : Int)) = false := by simp; omega
  replace hn := hide hn
  go_enter Try.func51, Try.ntmps51
  go_wp2_with (at_make; refine wpList_make_ins rfl _ _ rfl n (progOf s) ?_ ?_ (by omega) ?_; (· simp [Act.eval]); (· simp [Act.eval]))
  obtain ⟨g, hg⟩ : ∃ g, g = w.heap.size := ⟨_, rfl⟩
  have HH0 := hide (heap_alloc_new w (.cells (VA (n * 4) (cellP (progOf s) 0)) 78))
  rw [← hg] at HH0 ⊢
  replace hg := hide hg
  go_loopw [18] (fun I wr => ∃ i : Nat, i ≤ n ∧ I = .int .i64 i ∧ Hid (wr.heap[g]? = some (.cells (VA (n * 4) (cellP (progOf s) i)) 78 (0, 0))) ∧ Hid (Below g w wr)) (fun I _ => n - (intOf I).toNat)
  case atStart => exact ⟨0, by omega, rfl, HH0, hide (by rw [hg.out]; exact box_below _ _)⟩
  case round =>
    obtain ⟨i, hi, rfl, HX, HB⟩ := hrel
    by_cases hlt : i < n
    · have HC := readInsn_any (s.extract (i * 8) s.size) (by rw [ByteArray.size_extract]; omega) (by rw [ByteArray.size_extract]; omega)
      rw [insAt_extract s (i * 8) (by omega)] at HC
      have HI := hide (show progOf s i = insAt s (i * 8) by unfold progOf; rw [Nat.mul_comm])
      obtain ⟨x, hx⟩ : ∃ x, x = insAt s (i * 8) := ⟨_, rfl⟩
      rw [← hx] at HC HI
      clear hx
      have HST := hide (cellP_step (progOf s) i)
      rw [HI.out] at HST
      clear HI
      obtain ⟨op, jt, jf, k⟩ := x
      unfold insV at HC
      simp only at HC HST
      have hi8 : i * 8 ≤ s.size := by omega
      go_wp2_with (go_at_call 69; refine (HC _).mono ?_; rintro e w2 ⟨rfl, hb2⟩; have HH2 := hide ((hb2.block g (Array.getElem?_eq_some_iff.1 HX.out).1).trans HX.out); have q0 := (cell_of_row w2 g (i * 4) _ _ _ HH2.out).trans (VA_get _ _ _ (by omega)); have q1 := (cell_of_row w2 g (i * 4 + 1) _ _ _ HH2.out).trans (VA_get _ _ _ (by omega)); have q2 := (cell_of_row w2 g (i * 4 + 2) _ _ _ HH2.out).trans (VA_get _ _ _ (by omega)); have q3 := (cell_of_row w2 g (i * 4 + 3) _ _ _ HH2.out).trans (VA_get _ _ _ (by omega)); have fz := fun j => frozen_of_row w2 g j _ _ HH2.out)
      have HH3 := hide (show ((((w2.setCell ⟨g, i * 4, none⟩ (.int .i64 op)).setCell ⟨g, i * 4 + 1, none⟩ (.int .i64 jt)).setCell ⟨g, i * 4 + 2, none⟩ (.int .i64 jf)).setCell ⟨g, i * 4 + 3, none⟩ (.int .u32 k)).heap[g]? = some (.cells (VA (n * 4) (cellP (progOf s) (i + 1))) 78 (0, 0)) by
        have h := set_one _ g (i * 4 + 3) (.int .u32 k) _ 78 (set_one _ g (i * 4 + 2) (.int .i64 jf) _ 78 (set_one _ g (i * 4 + 1) (.int .i64 jt) _ 78 (set_one w2 g (i * 4) (.int .i64 op) _ 78 HH2.out)))
        rw [VA_set, VA_set, VA_set, VA_set, HST.out] at h
        exact h)
      go_round
      case rel => exact ⟨i + 1, by omega, by go_num, HH3, hide (((((HB.out.trans (hb2.mono (Nat.le_of_lt (Array.getElem?_eq_some_iff.1 HX.out).1))).setCell (Nat.le_refl _) _).setCell (Nat.le_refl _) _).setCell (Nat.le_refl _) _).setCell (Nat.le_refl _) _)⟩
      case measure => simp [intOf]; omega
    · obtain rfl : i = n := by omega
      have HP := hide (prog_row HX.out fun j _ => insAt_ok s _)
      by_cases hc : checkR i (progOf s) = 0
      · have HY := bytes_ok (some ⟨g, 0, none⟩) i i (progOf s) wr HP.out hc
        by_cases he : strB (progB (progOf s) i) = s
        · rw [he] at HY
          go_wp2_with (go_at_call 46; refine HY.mono ?_; rintro e w3 ⟨rfl, hb3⟩)
          go_ret2
          exact ⟨by rw [← hg.out]; exact HB.out.trans (hb3.mono (Nat.le_of_lt (Array.getElem?_eq_some_iff.1 HX.out).1)), .inl ⟨hc, he, g, rfl, HP.out.on hb3⟩⟩
        · have hne : ((strB (progB (progOf s) i)).toList == s.toList) = false := by
            rw [Lib.toList_data, Lib.toList_data, beq_eq_false_iff_ne]
            intro h
            exact he (by
              have h2 : (strB (progB (progOf s) i)).data = s.data := Array.toList_inj.1 h
              exact congrArg ByteArray.mk h2)
          obtain ⟨t, ht⟩ : ∃ t, t = strB (progB (progOf s) i) := ⟨_, rfl⟩
          rw [← ht] at HY hne
          have HN := hide he
          clear he ht
          go_wp2_with (go_at_call 46; refine HY.mono ?_; rintro e w3 ⟨rfl, hb3⟩)
          go_ret2
          exact ⟨by rw [← hg.out]; exact HB.out.trans (hb3.mono (Nat.le_of_lt (Array.getElem?_eq_some_iff.1 HX.out).1)), .inr ⟨fun h => HN.out h.2, rfl⟩⟩
      · have HY := bytes_bad (some ⟨g, 0, none⟩) i i (by omega) (progOf s) wr HP.out hc
        rw [errV_pos hc] at HY
        go_wp2_with (go_at_call 46; refine HY.mono ?_; rintro e w3 ⟨rfl, hb3⟩)
        go_ret2
        exact ⟨by rw [← hg.out]; exact HB.out.trans (hb3.mono (Nat.le_of_lt (Array.getElem?_eq_some_iff.1 HX.out).1)), .inr ⟨fun h => hc h.1, rfl⟩⟩
end Go.Proofs.Ytlpcjonklfnejaa
