/- The walks of the document's GlobFault and Match, of likes, and of the law GlobSays. -/
import Derived.Test.YtaipgmnifnclbaaGLike
namespace Go.Proofs.Ytaipgmnifnclbaa
open Go.RowKit

def faultR (p : ByteArray) : Nat := match parseR p with
  | .inl n => n
  | .inr _ => 0

theorem parse_err {p : ByteArray} {n : Nat} (h : parseR p = .inl n) : 0 < n := by
  unfold parseR at h
  split at h
  · simp only [Sum.inl.injEq] at h; omega
  · split at h
    · simp only [Sum.inl.injEq] at h; omega
    · split at h
      · simp only [Sum.inl.injEq] at h; omega
      · simp at h
theorem faultR_long {p : ByteArray} (h : 24 < p.size) : faultR p = 2 := by unfold faultR parseR; rw [if_pos h]
theorem faultR_none {p : ByteArray} (h : ¬ 24 < p.size) (hn : partsR (p.size + 1) p 0 = none) : faultR p = 4 := by
  unfold faultR parseR; rw [if_neg h, hn]
  split <;> rename_i hh <;> split at hh <;> simp_all
theorem faultR_some {p : ByteArray} {ps : List Part} (h : ¬ 24 < p.size) (hn : partsR (p.size + 1) p 0 = some ps) : faultR p = if 0 < ps.length then 0 else 4 := by
  by_cases h0 : p.size = 0
  · have hl := partsR_length _ _ _ _ hn
    have : parseR p = .inl 4 := by unfold parseR; rw [if_neg h, if_pos h0]
    unfold faultR
    rw [this, if_neg (by omega)]
  · have : parseR p = .inr ps := by unfold parseR; rw [if_neg h, if_neg h0, hn]
    have hp := partsR_pos this
    unfold faultR
    rw [this, if_pos (List.length_pos_iff.2 hp.1)]

theorem globFault_any (p : ByteArray) (hz : p.size ≤ 1000) (w : World) :
    Calls Try.prog 8 #[.string p] w fun e w' => e = .returned (.int .i64 (faultR p)) ∧ Below w.heap.size w w' := by
  by_cases h24 : 24 < p.size
  · rw [faultR_long h24]
    go_enter Try.func8, Try.ntmps8
    go_wp2
    go_ret
    exact ⟨rfl, Below.refl _ _⟩
  · cases hq : partsR (p.size + 1) p 0 with
    | none =>
      have HQ := hide hq
      have HF := hide (faultR_none h24 hq)
      clear hq
      go_enter Try.func8, Try.ntmps8
      go_wp2_with (go_at_call 14; refine (pieces_any p hz _).mono ?_; unfold Pieced; rw [HQ.out]; rintro e W ⟨hW, rfl⟩)
      go_ret
      exact ⟨ret_int (by rw [HF.out]; rfl), hW⟩
    | some ps =>
      have HQ := hide hq
      have HF := hide (faultR_some h24 hq)
      clear hq
      by_cases hl : 0 < ps.length
      · have hd : decide (0 < ps.length) = true := by simpa using hl
        go_enter Try.func8, Try.ntmps8
        go_wp2_with (go_at_call 14; refine (pieces_any p hz _).mono ?_; unfold Pieced; rw [HQ.out]; rintro e W ⟨hW, sv, cs, rfl, hcut, hown⟩; rw [hd])
        go_ret
        exact ⟨ret_int (by rw [HF.out, if_pos hl]; rfl), hW⟩
      · have hd : decide (0 < ps.length) = false := by simpa using hl
        go_enter Try.func8, Try.ntmps8
        go_wp2_with (go_at_call 14; refine (pieces_any p hz _).mono ?_; unfold Pieced; rw [HQ.out]; rintro e W ⟨hW, sv, cs, rfl, hcut, hown⟩; rw [hd])
        go_ret
        exact ⟨ret_int (by rw [HF.out, if_neg hl]; rfl), hW⟩

theorem strs_cells {w : World} {base : Nat} {sv : Value} {p : ByteArray} {cs : List (Nat × Nat)} {ps : List Part} (hcut : Cut p cs ps) (h : w.ownsRow base 9 1 sv ps.length (strsOf p cs)) (hne : ps ≠ []) :
    ∃ b cap, sv = .slice (some ⟨b, 0, none⟩) ps.length cap ∧ b < w.heap.size ∧ ∀ i, i < ps.length → w.cell? ⟨b, i, none⟩ = some (.string (pieceAt p cs i)) := by
  have hn : ps.length ≠ 0 := by simpa using hne
  rcases h.2 with ⟨_, h0⟩ | ⟨g, cap, cur, rfl, hb, hg, _⟩
  · exact absurd h0 hn
  · refine ⟨g, cap, rfl, (Array.getElem?_eq_some_iff.1 hg).1, fun i hi => ?_⟩
    have hl : i < cs.length := by rw [hcut.1]; exact hi
    have := h.cells (g := g) rfl i (.string (pieceAt p cs i)) (by
      unfold strsOf pieceAt
      rw [List.getElem?_map, List.getD_eq_getElem?_getD, List.getElem?_eq_getElem hl]
      rfl)
    have hadd : (⟨g, 0, none⟩ : Addr).add i = ⟨g, i, none⟩ := by unfold Addr.add; split <;> simp_all
    rwa [hadd] at this

theorem rmatch_any (p s : ByteArray) (hz : p.size ≤ 1000) (hs : s.size ≤ 1000) (w : World) :
    Calls Try.prog 10 #[.string p, .string s] w fun e w' => e = .returned (.bool (matchR p s)) ∧ Below w.heap.size w w' := by
  cases hP : parseR p with
  | inl n =>
    have hn : 0 < faultR p := by
      have h := parse_err hP
      unfold faultR
      rw [hP]
      exact h
    have HM := hide (show matchR p s = false by unfold matchR; rw [hP])
    clear hP
    go_enter Try.func10, Try.ntmps10
    go_wp2_with (go_at_call 8; refine (globFault_any p hz _).mono ?_; rintro e W ⟨rfl, hW⟩)
    go_ret
    exact ⟨ret_bool HM.out.symm, hW⟩
  | inr ps =>
    have h0 : faultR p = 0 := by unfold faultR; rw [hP]
    obtain ⟨hne, h24⟩ := partsR_pos hP
    have hq : partsR (p.size + 1) p 0 = some ps := by
      unfold parseR at hP
      split at hP
      · simp at hP
      · split at hP
        · simp at hP
        · split at hP
          · simp at hP
          · rename_i hh; simp only [Sum.inr.injEq] at hP; rw [hh, hP]
    have HM := hide (show matchR p s = reach ps s ps.length s.size by unfold matchR; rw [hP]; exact runTo_reach ps s)
    have HQ := hide hq
    have H0 := hide h0
    clear hP hq h0
    go_enter Try.func10, Try.ntmps10
    go_wp2_with (first
      | (go_at_call 8; refine (globFault_any p hz _).mono ?_; rw [H0.out]; rintro e W ⟨rfl, hW⟩)
      | (go_at_call 14; refine (pieces_any p hz _).mono ?_; unfold Pieced; rw [HQ.out]; rintro e W2 ⟨hW2, sv, cs, rfl, hcut, hown⟩; obtain ⟨b, cap, rfl, hb, hcell⟩ := strs_cells hcut hown hne)
      | (go_at_call 17; refine (like_any p s cs ps b cap hz hs hcut (by omega) _ hb hcell).mono ?_; rintro e W3 ⟨rfl, hW3⟩))
    go_ret
    exact ⟨ret_bool HM.out.symm, (hW.trans (hW2.mono hW.size)).trans (hW3.mono (Nat.le_trans hW.size hW2.size))⟩

theorem likes_any (w : World) : Calls Try.prog 5 #[] w fun e w' => e = .returned (.bool true) ∧ Below w.heap.size w w' := by
  have H1 := hide (show matchR ⟨#[47, 97, 47, 42, 46, 98]⟩ ⟨#[47, 97, 47, 120, 46, 98]⟩ = true by decide +kernel)
  have H2 := hide (show matchR ⟨#[47, 97, 47, 42, 46, 98]⟩ ⟨#[47, 97, 47, 120, 47, 121, 46, 98]⟩ = false by decide +kernel)
  go_enter Try.func5, Try.ntmps5
  go_wp2_with fail
  refine (match_any _ _ (by decide) (by decide) _).mono ?_
  rw [H1.out]
  rintro e W ⟨rfl, hW⟩
  go_wp2_with fail
  refine (match_any _ _ (by decide) (by decide) _).mono ?_
  rw [H2.out]
  rintro e W2 ⟨rfl, hW2⟩
  go_wp2
  go_ret
  exact ⟨rfl, hW.trans (hW2.mono hW.size)⟩

theorem globSays_any (p s : ByteArray) (hp : p.size ≤ 9223372036854775807) (hs : s.size ≤ 9223372036854775807) (w : World) :
    Calls Try.prog 3 #[.string p, .string s] w fun e w' => e = .returned (.bool true) ∧ Below w.heap.size w w' := by
  have LK := likes_any
  by_cases h60 : 60 < p.size
  · have d60 : decide ((60 : Int) < (p.size : Int)) = true := by simp; omega
    go_enter Try.func3, Try.ntmps3
    go_wp2_with (go_at_call 5; refine (likes_any _).mono ?_; rintro e W ⟨rfl, hW⟩)
    go_ret
    exact ⟨rfl, hW⟩
  · have d60 : decide ((60 : Int) < (p.size : Int)) = false := by simp; omega
    by_cases h100 : 100 < s.size
    · have d100 : decide ((100 : Int) < (s.size : Int)) = true := by simp; omega
      go_enter Try.func3, Try.ntmps3
      go_wp2_with (go_at_call 5; refine (likes_any _).mono ?_; rintro e W ⟨rfl, hW⟩)
      go_ret
      exact ⟨rfl, hW⟩
    · have d100 : decide ((100 : Int) < (s.size : Int)) = false := by simp; omega
      have hz : p.size ≤ 1000 := by omega
      have hz2 : s.size ≤ 1000 := by omega
      cases hP : parseR p with
      | inl n =>
        have hf : faultR p = n := by unfold faultR; rw [hP]
        have hn : 0 < n := parse_err hP
        have HP := hide hP
        have HF := hide hf
        have ht : (decide (0 < (n : Int)) && (n : Int) == (n : Int)) = true := by simp; omega
        clear hP hf LK
        go_enter Try.func3, Try.ntmps3
        go_wp2_with (first
          | (go_at_call 5; refine (likes_any _).mono ?_; rintro e W ⟨rfl, hW⟩)
          | (go_at_call 7; refine (check_any p hz _).mono ?_; rw [HP.out]; rintro e W1 ⟨rfl, hW1⟩)
          | (go_at_call 8; refine (globFault_any p hz _).mono ?_; rw [HF.out]; rintro e W2 ⟨rfl, hW2⟩)
          | (go_at_call 6; refine (same_errno _ _ _).mono ?_; rw [ht]; rintro e wx ⟨rfl, hwx⟩; rw [hwx]; clear hwx wx)
          | (go_at_call 9; refine (match_any p s hz hz2 _).mono ?_; rintro e W3 ⟨rfl, hW3⟩)
          | (go_at_call 10; refine (rmatch_any p s hz hz2 _).mono ?_; rintro e W4 ⟨rfl, hW4⟩))
        go_ret
        exact ⟨rfl, (((hW.trans (hW1.mono hW.size)).trans (hW2.mono (Nat.le_trans hW.size hW1.size))).trans (hW3.mono (Nat.le_trans hW.size (Nat.le_trans hW1.size hW2.size)))).trans (hW4.mono (Nat.le_trans hW.size (Nat.le_trans hW1.size (Nat.le_trans hW2.size hW3.size))))⟩
      | inr ps =>
        have HP := hide hP
        have HF := hide (show faultR p = 0 by unfold faultR; rw [hP])
        clear hP LK
        go_enter Try.func3, Try.ntmps3
        go_wp2_with (first
          | (go_at_call 5; refine (likes_any _).mono ?_; rintro e W ⟨rfl, hW⟩)
          | (go_at_call 7; refine (check_any p hz _).mono ?_; rw [HP.out]; rintro e W1 ⟨rfl, hW1⟩)
          | (go_at_call 8; refine (globFault_any p hz _).mono ?_; rw [HF.out]; rintro e W2 ⟨rfl, hW2⟩)
          | (go_at_call 6; refine (same_nil _ _).mono ?_; rintro e wx ⟨rfl, hwx⟩; rw [hwx]; clear hwx wx)
          | (go_at_call 9; refine (match_any p s hz hz2 _).mono ?_; rintro e W3 ⟨rfl, hW3⟩)
          | (go_at_call 10; refine (rmatch_any p s hz hz2 _).mono ?_; rintro e W4 ⟨rfl, hW4⟩))
        go_ret
        exact ⟨rfl, (((hW.trans (hW1.mono hW.size)).trans (hW2.mono (Nat.le_trans hW.size hW1.size))).trans (hW3.mono (Nat.le_trans hW.size (Nat.le_trans hW1.size hW2.size)))).trans (hW4.mono (Nat.le_trans hW.size (Nat.le_trans hW1.size (Nat.le_trans hW2.size hW3.size))))⟩
end Go.Proofs.Ytaipgmnifnclbaa
