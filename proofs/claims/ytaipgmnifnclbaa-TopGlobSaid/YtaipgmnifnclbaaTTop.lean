/- The walk of the law TopGlob. -/
import Derived.Test.YtaipgmnifnclbaaTWalk
namespace Go.Proofs.Ytaipgmnifnclbaa
open Go.RowKit

theorem below_then {w w1 w2 : World} (a : Below w.heap.size w w1) (b : Below w1.heap.size w1 w2) : Below w.heap.size w w2 := a.trans (b.mono a.size)
theorem match_parse {p s : ByteArray} (h : matchR p s = true) : ∃ ps, parseR p = .inr ps := by
  unfold matchR at h
  cases hP : parseR p with
  | inl n => rw [hP] at h; simp at h
  | inr ps => exact ⟨ps, rfl⟩

theorem topGlob_wide (p q s t : ByteArray) (hp : p.size ≤ 9223372036854775807) (hq : q.size ≤ 9223372036854775807) (hs : s.size ≤ 9223372036854775807) (ht : t.size ≤ 9223372036854775807)
    (hx : 30 < p.size ∨ 30 < q.size ∨ 60 < s.size ∨ 60 < t.size) (w : World) :
    Calls Try.prog 4 #[.string p, .string q, .string s, .string t] w fun e w' => e = .returned (.bool true) ∧ Below w.heap.size w w' := by
  have HU := hide (show matchR ⟨#[97, 63]⟩ ⟨#[97, 98]⟩ = true by decide +kernel)
  by_cases cp : 30 < p.size
  · have dp : decide ((30 : Int) < (p.size : Int)) = true := by simp; omega
    go_enter Try.func4, Try.ntmps4
    go_wp2_with fail
    refine (match_any ⟨#[97, 63]⟩ ⟨#[97, 98]⟩ (by decide) (by decide) _).mono ?_
    rw [HU.out]
    rintro e W0 ⟨rfl, hW0⟩
    go_wp2
    go_ret
    exact ⟨rfl, hW0⟩
  · have dp : decide ((30 : Int) < (p.size : Int)) = false := by simp; omega
    by_cases cq : 30 < q.size
    · have dq : decide ((30 : Int) < (q.size : Int)) = true := by simp; omega
      go_enter Try.func4, Try.ntmps4
      go_wp2_with fail
      refine (match_any ⟨#[97, 63]⟩ ⟨#[97, 98]⟩ (by decide) (by decide) _).mono ?_
      rw [HU.out]
      rintro e W0 ⟨rfl, hW0⟩
      go_wp2
      go_ret
      exact ⟨rfl, hW0⟩
    · have dq : decide ((30 : Int) < (q.size : Int)) = false := by simp; omega
      by_cases cs : 60 < s.size
      · have ds : decide ((60 : Int) < (s.size : Int)) = true := by simp; omega
        go_enter Try.func4, Try.ntmps4
        go_wp2_with fail
        refine (match_any ⟨#[97, 63]⟩ ⟨#[97, 98]⟩ (by decide) (by decide) _).mono ?_
        rw [HU.out]
        rintro e W0 ⟨rfl, hW0⟩
        go_wp2
        go_ret
        exact ⟨rfl, hW0⟩
      · have ds : decide ((60 : Int) < (s.size : Int)) = false := by simp; omega
        have dt : decide ((60 : Int) < (t.size : Int)) = true := by simp; omega
        go_enter Try.func4, Try.ntmps4
        go_wp2_with fail
        refine (match_any ⟨#[97, 63]⟩ ⟨#[97, 98]⟩ (by decide) (by decide) _).mono ?_
        rw [HU.out]
        rintro e W0 ⟨rfl, hW0⟩
        go_wp2
        go_ret
        exact ⟨rfl, hW0⟩

theorem topGlob_not (p q s t : ByteArray) (hp : p.size ≤ 30) (hq : q.size ≤ 30) (hs : s.size ≤ 60) (ht : t.size ≤ 60) (ha : matchR p s = false) (w : World) :
    Calls Try.prog 4 #[.string p, .string q, .string s, .string t] w fun e w' => e = .returned (.bool true) ∧ Below w.heap.size w w' := by
  have HU := hide (show matchR ⟨#[97, 63]⟩ ⟨#[97, 98]⟩ = true by decide +kernel)
  have dp : decide ((30 : Int) < (p.size : Int)) = false := by simp; omega
  have dq : decide ((30 : Int) < (q.size : Int)) = false := by simp; omega
  have ds : decide ((60 : Int) < (s.size : Int)) = false := by simp; omega
  have dt : decide ((60 : Int) < (t.size : Int)) = false := by simp; omega
  have hzp : p.size ≤ 1000 := by omega
  have hzq : q.size ≤ 1000 := by omega
  have hzs : s.size ≤ 1000 := by omega
  have hzt : t.size ≤ 1000 := by omega
  have HA := hide ha
  clear ha
  go_enter Try.func4, Try.ntmps4
  go_wp2_with fail
  refine (match_any ⟨#[97, 63]⟩ ⟨#[97, 98]⟩ (by decide) (by decide) _).mono ?_
  rw [HU.out]
  rintro e W0 ⟨rfl, hW0⟩
  go_wp2_with fail
  refine (stars_any p hzp _).mono ?_
  rintro e W1 ⟨rfl, hW1⟩
  go_wp2_with fail
  refine (stars_any q hzq _).mono ?_
  rintro e W2 ⟨rfl, hW2⟩
  go_wp2_with fail
  refine (match_any p s hzp hzs _).mono ?_
  rw [HA.out]
  rintro e W3 ⟨rfl, hW3⟩
  go_wp2_with fail
  refine (match_any q t hzq hzt _).mono ?_
  rintro e W4 ⟨rfl, hW4⟩
  go_wp2
  go_ret
  exact ⟨rfl, (below_then (below_then (below_then (below_then hW0 hW1) hW2) hW3) hW4)⟩

theorem topGlob_b0_two (p q s t : ByteArray) (hp : p.size ≤ 30) (hq : q.size ≤ 30) (hs : s.size ≤ 60) (ht : t.size ≤ 60) (ha : matchR p s = true) (h2 : twoTo p p.size = true) (hm : matchR q t = false) (w : World) :
    Calls Try.prog 4 #[.string p, .string q, .string s, .string t] w fun e w' => e = .returned (.bool true) ∧ Below w.heap.size w w' := by
  have HU := hide (show matchR ⟨#[97, 63]⟩ ⟨#[97, 98]⟩ = true by decide +kernel)
  have dp : decide ((30 : Int) < (p.size : Int)) = false := by simp; omega
  have dq : decide ((30 : Int) < (q.size : Int)) = false := by simp; omega
  have ds : decide ((60 : Int) < (s.size : Int)) = false := by simp; omega
  have dt : decide ((60 : Int) < (t.size : Int)) = false := by simp; omega
  have hzp : p.size ≤ 1000 := by omega
  have hzq : q.size ≤ 1000 := by omega
  have hzs : s.size ≤ 1000 := by omega
  have hzt : t.size ≤ 1000 := by omega
  obtain ⟨ps, hP⟩ := match_parse ha
  have HA := hide ha
  have HT := hide h2
  have HM := hide hm
  have HP := hide hP
  clear ha h2 hm hP
  go_enter Try.func4, Try.ntmps4
  go_wp2_with fail
  refine (match_any ⟨#[97, 63]⟩ ⟨#[97, 98]⟩ (by decide) (by decide) _).mono ?_
  rw [HU.out]
  rintro e W0 ⟨rfl, hW0⟩
  go_wp2_with fail
  refine (stars_any p hzp _).mono ?_
  rw [HT.out]
  rintro e W1 ⟨rfl, hW1⟩
  go_wp2_with fail
  refine (stars_any q hzq _).mono ?_
  rintro e W2 ⟨rfl, hW2⟩
  go_wp2_with fail
  refine (match_any p s hzp hzs _).mono ?_
  rw [HA.out]
  rintro e W3 ⟨rfl, hW3⟩
  go_wp2_with fail
  refine (match_any q t hzq hzt _).mono ?_
  rw [HM.out]
  rintro e W4 ⟨rfl, hW4⟩
  go_wp2_with fail
  refine (check_any p hzp _).mono ?_
  rw [HP.out]
  rintro e W5 ⟨rfl, hW5⟩
  go_wp2
  go_ret
  exact ⟨rfl, (below_then (below_then (below_then (below_then (below_then hW0 hW1) hW2) hW3) hW4) hW5)⟩

theorem topGlob_eg_two (p q s t : ByteArray) (hp : p.size ≤ 30) (hq : q.size ≤ 30) (hs : s.size ≤ 60) (ht : t.size ≤ 60) (ha : matchR p s = true) (h2 : twoTo p p.size = true) (hm : matchR q t = true) (he : endsB p = true) (hb : beginsB q = true) (w : World) :
    Calls Try.prog 4 #[.string p, .string q, .string s, .string t] w fun e w' => e = .returned (.bool true) ∧ Below w.heap.size w w' := by
  have HU := hide (show matchR ⟨#[97, 63]⟩ ⟨#[97, 98]⟩ = true by decide +kernel)
  have dp : decide ((30 : Int) < (p.size : Int)) = false := by simp; omega
  have dq : decide ((30 : Int) < (q.size : Int)) = false := by simp; omega
  have ds : decide ((60 : Int) < (s.size : Int)) = false := by simp; omega
  have dt : decide ((60 : Int) < (t.size : Int)) = false := by simp; omega
  have hzp : p.size ≤ 1000 := by omega
  have hzq : q.size ≤ 1000 := by omega
  have hzs : s.size ≤ 1000 := by omega
  have hzt : t.size ≤ 1000 := by omega
  obtain ⟨ps, hP⟩ := match_parse ha
  have HE := hide he
  have HB := hide hb
  have HA := hide ha
  have HT := hide h2
  have HM := hide hm
  have HP := hide hP
  clear ha h2 hm hP he hb
  go_enter Try.func4, Try.ntmps4
  go_wp2_with fail
  refine (match_any ⟨#[97, 63]⟩ ⟨#[97, 98]⟩ (by decide) (by decide) _).mono ?_
  rw [HU.out]
  rintro e W0 ⟨rfl, hW0⟩
  go_wp2_with fail
  refine (stars_any p hzp _).mono ?_
  rw [HE.out, HT.out]
  rintro e W1 ⟨rfl, hW1⟩
  go_wp2_with fail
  refine (stars_any q hzq _).mono ?_
  rw [HB.out]
  rintro e W2 ⟨rfl, hW2⟩
  go_wp2_with fail
  refine (match_any p s hzp hzs _).mono ?_
  rw [HA.out]
  rintro e W3 ⟨rfl, hW3⟩
  go_wp2_with fail
  refine (match_any q t hzq hzt _).mono ?_
  rw [HM.out]
  rintro e W4 ⟨rfl, hW4⟩
  go_wp2_with fail
  refine (check_any p hzp _).mono ?_
  rw [HP.out]
  rintro e W5 ⟨rfl, hW5⟩
  go_wp2
  go_ret
  exact ⟨rfl, (below_then (below_then (below_then (below_then (below_then hW0 hW1) hW2) hW3) hW4) hW5)⟩

theorem topGlob_e0big_two (p q s t : ByteArray) (hp : p.size ≤ 30) (hq : q.size ≤ 30) (hs : s.size ≤ 60) (ht : t.size ≤ 60) (ha : matchR p s = true) (h2 : twoTo p p.size = true) (hm : matchR q t = true) (he : endsB p = false) (hg : 24 < p.size + q.size) (w : World) :
    Calls Try.prog 4 #[.string p, .string q, .string s, .string t] w fun e w' => e = .returned (.bool true) ∧ Below w.heap.size w w' := by
  have HU := hide (show matchR ⟨#[97, 63]⟩ ⟨#[97, 98]⟩ = true by decide +kernel)
  have dp : decide ((30 : Int) < (p.size : Int)) = false := by simp; omega
  have dq : decide ((30 : Int) < (q.size : Int)) = false := by simp; omega
  have ds : decide ((60 : Int) < (s.size : Int)) = false := by simp; omega
  have dt : decide ((60 : Int) < (t.size : Int)) = false := by simp; omega
  have hzp : p.size ≤ 1000 := by omega
  have hzq : q.size ≤ 1000 := by omega
  have hzs : s.size ≤ 1000 := by omega
  have hzt : t.size ≤ 1000 := by omega
  obtain ⟨ps, hP⟩ := match_parse ha
  have HE := hide he
  have dg : decide ((24 : Int) < (p.size : Int) + (q.size : Int)) = true := by simp; omega
  have HA := hide ha
  have HT := hide h2
  have HM := hide hm
  have HP := hide hP
  clear ha h2 hm hP he
  go_enter Try.func4, Try.ntmps4
  go_wp2_with fail
  refine (match_any ⟨#[97, 63]⟩ ⟨#[97, 98]⟩ (by decide) (by decide) _).mono ?_
  rw [HU.out]
  rintro e W0 ⟨rfl, hW0⟩
  go_wp2_with fail
  refine (stars_any p hzp _).mono ?_
  rw [HE.out, HT.out]
  rintro e W1 ⟨rfl, hW1⟩
  go_wp2_with fail
  refine (stars_any q hzq _).mono ?_
  rintro e W2 ⟨rfl, hW2⟩
  go_wp2_with fail
  refine (match_any p s hzp hzs _).mono ?_
  rw [HA.out]
  rintro e W3 ⟨rfl, hW3⟩
  go_wp2_with fail
  refine (match_any q t hzq hzt _).mono ?_
  rw [HM.out]
  rintro e W4 ⟨rfl, hW4⟩
  go_wp2_with fail
  refine (check_any p hzp _).mono ?_
  rw [HP.out]
  rintro e W5 ⟨rfl, hW5⟩
  go_wp2
  go_ret
  exact ⟨rfl, (below_then (below_then (below_then (below_then (below_then hW0 hW1) hW2) hW3) hW4) hW5)⟩

theorem topGlob_g0big_two (p q s t : ByteArray) (hp : p.size ≤ 30) (hq : q.size ≤ 30) (hs : s.size ≤ 60) (ht : t.size ≤ 60) (ha : matchR p s = true) (h2 : twoTo p p.size = true) (hm : matchR q t = true) (he : endsB p = true) (hb : beginsB q = false) (hg : 24 < p.size + q.size) (w : World) :
    Calls Try.prog 4 #[.string p, .string q, .string s, .string t] w fun e w' => e = .returned (.bool true) ∧ Below w.heap.size w w' := by
  have HU := hide (show matchR ⟨#[97, 63]⟩ ⟨#[97, 98]⟩ = true by decide +kernel)
  have dp : decide ((30 : Int) < (p.size : Int)) = false := by simp; omega
  have dq : decide ((30 : Int) < (q.size : Int)) = false := by simp; omega
  have ds : decide ((60 : Int) < (s.size : Int)) = false := by simp; omega
  have dt : decide ((60 : Int) < (t.size : Int)) = false := by simp; omega
  have hzp : p.size ≤ 1000 := by omega
  have hzq : q.size ≤ 1000 := by omega
  have hzs : s.size ≤ 1000 := by omega
  have hzt : t.size ≤ 1000 := by omega
  obtain ⟨ps, hP⟩ := match_parse ha
  have HE := hide he
  have HB := hide hb
  have dg : decide ((24 : Int) < (p.size : Int) + (q.size : Int)) = true := by simp; omega
  have HA := hide ha
  have HT := hide h2
  have HM := hide hm
  have HP := hide hP
  clear ha h2 hm hP he hb
  go_enter Try.func4, Try.ntmps4
  go_wp2_with fail
  refine (match_any ⟨#[97, 63]⟩ ⟨#[97, 98]⟩ (by decide) (by decide) _).mono ?_
  rw [HU.out]
  rintro e W0 ⟨rfl, hW0⟩
  go_wp2_with fail
  refine (stars_any p hzp _).mono ?_
  rw [HE.out, HT.out]
  rintro e W1 ⟨rfl, hW1⟩
  go_wp2_with fail
  refine (stars_any q hzq _).mono ?_
  rw [HB.out]
  rintro e W2 ⟨rfl, hW2⟩
  go_wp2_with fail
  refine (match_any p s hzp hzs _).mono ?_
  rw [HA.out]
  rintro e W3 ⟨rfl, hW3⟩
  go_wp2_with fail
  refine (match_any q t hzq hzt _).mono ?_
  rw [HM.out]
  rintro e W4 ⟨rfl, hW4⟩
  go_wp2_with fail
  refine (check_any p hzp _).mono ?_
  rw [HP.out]
  rintro e W5 ⟨rfl, hW5⟩
  go_wp2
  go_ret
  exact ⟨rfl, (below_then (below_then (below_then (below_then (below_then hW0 hW1) hW2) hW3) hW4) hW5)⟩

theorem topGlob_e0_two (p q s t : ByteArray) (hp : p.size ≤ 30) (hq : q.size ≤ 30) (hs : s.size ≤ 60) (ht : t.size ≤ 60) (ha : matchR p s = true) (h2 : twoTo p p.size = true) (hm : matchR q t = true) (he : endsB p = false) (hg : p.size + q.size ≤ 24) (w : World) :
    Calls Try.prog 4 #[.string p, .string q, .string s, .string t] w fun e w' => e = .returned (.bool true) ∧ Below w.heap.size w w' := by
  have HU := hide (show matchR ⟨#[97, 63]⟩ ⟨#[97, 98]⟩ = true by decide +kernel)
  have dp : decide ((30 : Int) < (p.size : Int)) = false := by simp; omega
  have dq : decide ((30 : Int) < (q.size : Int)) = false := by simp; omega
  have ds : decide ((60 : Int) < (s.size : Int)) = false := by simp; omega
  have dt : decide ((60 : Int) < (t.size : Int)) = false := by simp; omega
  have hzp : p.size ≤ 1000 := by omega
  have hzq : q.size ≤ 1000 := by omega
  have hzs : s.size ≤ 1000 := by omega
  have hzt : t.size ≤ 1000 := by omega
  obtain ⟨ps, hP⟩ := match_parse ha
  have HE := hide he
  have dg : decide ((24 : Int) < (p.size : Int) + (q.size : Int)) = false := by simp; omega
  obtain ⟨qs, hQ⟩ := match_parse hm
  have hx : ¬ (byteAt p (p.size - 1) = 42 ∧ byteAt q 0 = 42) := by
    obtain ⟨p1, _, _⟩ := parseR_parts hP
    obtain ⟨q1, _, _⟩ := parseR_parts hQ
    rintro ⟨x1, x2⟩
    unfold endsB at he
    rw [x1, decide_eq_true (show 0 < p.size by omega)] at he
    simp at he
  have hPQ := parseR_append hP hQ hx hg
  have HPQ := hide hPQ
  have HMM := hide (match_append hP hQ hPQ ha hm)
  have hzpq : (p ++ q).size ≤ 1000 := by rw [size_both]; omega
  have hzst : (s ++ t).size ≤ 1000 := by rw [size_both]; omega
  have HA := hide ha
  have HT := hide h2
  have HM := hide hm
  have HP := hide hP
  clear hPQ hQ hx ha h2 hm hP he
  go_enter Try.func4, Try.ntmps4
  go_wp2_with fail
  refine (match_any ⟨#[97, 63]⟩ ⟨#[97, 98]⟩ (by decide) (by decide) _).mono ?_
  rw [HU.out]
  rintro e W0 ⟨rfl, hW0⟩
  go_wp2_with fail
  refine (stars_any p hzp _).mono ?_
  rw [HE.out, HT.out]
  rintro e W1 ⟨rfl, hW1⟩
  go_wp2_with fail
  refine (stars_any q hzq _).mono ?_
  rintro e W2 ⟨rfl, hW2⟩
  go_wp2_with fail
  refine (match_any p s hzp hzs _).mono ?_
  rw [HA.out]
  rintro e W3 ⟨rfl, hW3⟩
  go_wp2_with fail
  refine (match_any q t hzq hzt _).mono ?_
  rw [HM.out]
  rintro e W4 ⟨rfl, hW4⟩
  go_wp2_with fail
  refine (check_any p hzp _).mono ?_
  rw [HP.out]
  rintro e W5 ⟨rfl, hW5⟩
  go_wp2_with fail
  refine (check_any (p ++ q) hzpq _).mono ?_
  rw [HPQ.out]
  rintro e W6 ⟨rfl, hW6⟩
  go_wp2_with fail
  refine (match_any (p ++ q) (s ++ t) hzpq hzst _).mono ?_
  rw [HMM.out]
  rintro e W7 ⟨rfl, hW7⟩
  go_wp2
  go_ret
  exact ⟨rfl, (below_then (below_then (below_then (below_then (below_then (below_then (below_then hW0 hW1) hW2) hW3) hW4) hW5) hW6) hW7)⟩

theorem topGlob_g0_two (p q s t : ByteArray) (hp : p.size ≤ 30) (hq : q.size ≤ 30) (hs : s.size ≤ 60) (ht : t.size ≤ 60) (ha : matchR p s = true) (h2 : twoTo p p.size = true) (hm : matchR q t = true) (he : endsB p = true) (hb : beginsB q = false) (hg : p.size + q.size ≤ 24) (w : World) :
    Calls Try.prog 4 #[.string p, .string q, .string s, .string t] w fun e w' => e = .returned (.bool true) ∧ Below w.heap.size w w' := by
  have HU := hide (show matchR ⟨#[97, 63]⟩ ⟨#[97, 98]⟩ = true by decide +kernel)
  have dp : decide ((30 : Int) < (p.size : Int)) = false := by simp; omega
  have dq : decide ((30 : Int) < (q.size : Int)) = false := by simp; omega
  have ds : decide ((60 : Int) < (s.size : Int)) = false := by simp; omega
  have dt : decide ((60 : Int) < (t.size : Int)) = false := by simp; omega
  have hzp : p.size ≤ 1000 := by omega
  have hzq : q.size ≤ 1000 := by omega
  have hzs : s.size ≤ 1000 := by omega
  have hzt : t.size ≤ 1000 := by omega
  obtain ⟨ps, hP⟩ := match_parse ha
  have HE := hide he
  have HB := hide hb
  have dg : decide ((24 : Int) < (p.size : Int) + (q.size : Int)) = false := by simp; omega
  obtain ⟨qs, hQ⟩ := match_parse hm
  have hx : ¬ (byteAt p (p.size - 1) = 42 ∧ byteAt q 0 = 42) := by
    obtain ⟨p1, _, _⟩ := parseR_parts hP
    obtain ⟨q1, _, _⟩ := parseR_parts hQ
    rintro ⟨x1, x2⟩
    unfold beginsB at hb
    rw [x2, decide_eq_true (show 0 < q.size by omega)] at hb
    simp at hb
  have hPQ := parseR_append hP hQ hx hg
  have HPQ := hide hPQ
  have HMM := hide (match_append hP hQ hPQ ha hm)
  have hzpq : (p ++ q).size ≤ 1000 := by rw [size_both]; omega
  have hzst : (s ++ t).size ≤ 1000 := by rw [size_both]; omega
  have HA := hide ha
  have HT := hide h2
  have HM := hide hm
  have HP := hide hP
  clear hPQ hQ hx ha h2 hm hP he hb
  go_enter Try.func4, Try.ntmps4
  go_wp2_with fail
  refine (match_any ⟨#[97, 63]⟩ ⟨#[97, 98]⟩ (by decide) (by decide) _).mono ?_
  rw [HU.out]
  rintro e W0 ⟨rfl, hW0⟩
  go_wp2_with fail
  refine (stars_any p hzp _).mono ?_
  rw [HE.out, HT.out]
  rintro e W1 ⟨rfl, hW1⟩
  go_wp2_with fail
  refine (stars_any q hzq _).mono ?_
  rw [HB.out]
  rintro e W2 ⟨rfl, hW2⟩
  go_wp2_with fail
  refine (match_any p s hzp hzs _).mono ?_
  rw [HA.out]
  rintro e W3 ⟨rfl, hW3⟩
  go_wp2_with fail
  refine (match_any q t hzq hzt _).mono ?_
  rw [HM.out]
  rintro e W4 ⟨rfl, hW4⟩
  go_wp2_with fail
  refine (check_any p hzp _).mono ?_
  rw [HP.out]
  rintro e W5 ⟨rfl, hW5⟩
  go_wp2_with fail
  refine (check_any (p ++ q) hzpq _).mono ?_
  rw [HPQ.out]
  rintro e W6 ⟨rfl, hW6⟩
  go_wp2_with fail
  refine (match_any (p ++ q) (s ++ t) hzpq hzst _).mono ?_
  rw [HMM.out]
  rintro e W7 ⟨rfl, hW7⟩
  go_wp2
  go_ret
  exact ⟨rfl, (below_then (below_then (below_then (below_then (below_then (below_then (below_then hW0 hW1) hW2) hW3) hW4) hW5) hW6) hW7)⟩

theorem topGlob_b0_one (p q s t : ByteArray) (hp : p.size ≤ 30) (hq : q.size ≤ 30) (hs : s.size ≤ 60) (ht : t.size ≤ 60) (ha : matchR p s = true) (h2 : twoTo p p.size = false) (hm : matchR q t = false) (w : World) :
    Calls Try.prog 4 #[.string p, .string q, .string s, .string t] w fun e w' => e = .returned (.bool true) ∧ Below w.heap.size w w' := by
  have HU := hide (show matchR ⟨#[97, 63]⟩ ⟨#[97, 98]⟩ = true by decide +kernel)
  have dp : decide ((30 : Int) < (p.size : Int)) = false := by simp; omega
  have dq : decide ((30 : Int) < (q.size : Int)) = false := by simp; omega
  have ds : decide ((60 : Int) < (s.size : Int)) = false := by simp; omega
  have dt : decide ((60 : Int) < (t.size : Int)) = false := by simp; omega
  have hzp : p.size ≤ 1000 := by omega
  have hzq : q.size ≤ 1000 := by omega
  have hzs : s.size ≤ 1000 := by omega
  have hzt : t.size ≤ 1000 := by omega
  obtain ⟨ps, hP⟩ := match_parse ha
  have HC := hide (match_cnt (noTwo_of h2) ha)
  have bc : (!((cnt s s.size : Int) == (cnt s s.size : Int))) = false := by simp
  have HA := hide ha
  have HT := hide h2
  have HM := hide hm
  have HP := hide hP
  clear ha h2 hm hP
  go_enter Try.func4, Try.ntmps4
  go_wp2_with fail
  refine (match_any ⟨#[97, 63]⟩ ⟨#[97, 98]⟩ (by decide) (by decide) _).mono ?_
  rw [HU.out]
  rintro e W0 ⟨rfl, hW0⟩
  go_wp2_with fail
  refine (stars_any p hzp _).mono ?_
  rw [HT.out]
  rintro e W1 ⟨rfl, hW1⟩
  go_wp2_with fail
  refine (stars_any q hzq _).mono ?_
  rintro e W2 ⟨rfl, hW2⟩
  go_wp2_with fail
  refine (match_any p s hzp hzs _).mono ?_
  rw [HA.out]
  rintro e W3 ⟨rfl, hW3⟩
  go_wp2_with fail
  refine (match_any q t hzq hzt _).mono ?_
  rw [HM.out]
  rintro e W4 ⟨rfl, hW4⟩
  go_wp2_with fail
  refine (slashes_any s hzs _).mono ?_
  rintro e wx ⟨rfl, hwx⟩
  rw [hwx]
  clear hwx wx
  go_wp2_with fail
  refine (slashes_any p hzp _).mono ?_
  rw [← HC.out]
  rintro e wx ⟨rfl, hwx⟩
  rw [hwx]
  clear hwx wx
  go_wp2_with fail
  refine (check_any p hzp _).mono ?_
  rw [HP.out]
  rintro e W5 ⟨rfl, hW5⟩
  go_wp2
  go_ret
  exact ⟨rfl, (below_then (below_then (below_then (below_then (below_then hW0 hW1) hW2) hW3) hW4) hW5)⟩

theorem topGlob_eg_one (p q s t : ByteArray) (hp : p.size ≤ 30) (hq : q.size ≤ 30) (hs : s.size ≤ 60) (ht : t.size ≤ 60) (ha : matchR p s = true) (h2 : twoTo p p.size = false) (hm : matchR q t = true) (he : endsB p = true) (hb : beginsB q = true) (w : World) :
    Calls Try.prog 4 #[.string p, .string q, .string s, .string t] w fun e w' => e = .returned (.bool true) ∧ Below w.heap.size w w' := by
  have HU := hide (show matchR ⟨#[97, 63]⟩ ⟨#[97, 98]⟩ = true by decide +kernel)
  have dp : decide ((30 : Int) < (p.size : Int)) = false := by simp; omega
  have dq : decide ((30 : Int) < (q.size : Int)) = false := by simp; omega
  have ds : decide ((60 : Int) < (s.size : Int)) = false := by simp; omega
  have dt : decide ((60 : Int) < (t.size : Int)) = false := by simp; omega
  have hzp : p.size ≤ 1000 := by omega
  have hzq : q.size ≤ 1000 := by omega
  have hzs : s.size ≤ 1000 := by omega
  have hzt : t.size ≤ 1000 := by omega
  obtain ⟨ps, hP⟩ := match_parse ha
  have HE := hide he
  have HB := hide hb
  have HC := hide (match_cnt (noTwo_of h2) ha)
  have bc : (!((cnt s s.size : Int) == (cnt s s.size : Int))) = false := by simp
  have HA := hide ha
  have HT := hide h2
  have HM := hide hm
  have HP := hide hP
  clear ha h2 hm hP he hb
  go_enter Try.func4, Try.ntmps4
  go_wp2_with fail
  refine (match_any ⟨#[97, 63]⟩ ⟨#[97, 98]⟩ (by decide) (by decide) _).mono ?_
  rw [HU.out]
  rintro e W0 ⟨rfl, hW0⟩
  go_wp2_with fail
  refine (stars_any p hzp _).mono ?_
  rw [HE.out, HT.out]
  rintro e W1 ⟨rfl, hW1⟩
  go_wp2_with fail
  refine (stars_any q hzq _).mono ?_
  rw [HB.out]
  rintro e W2 ⟨rfl, hW2⟩
  go_wp2_with fail
  refine (match_any p s hzp hzs _).mono ?_
  rw [HA.out]
  rintro e W3 ⟨rfl, hW3⟩
  go_wp2_with fail
  refine (match_any q t hzq hzt _).mono ?_
  rw [HM.out]
  rintro e W4 ⟨rfl, hW4⟩
  go_wp2_with fail
  refine (slashes_any s hzs _).mono ?_
  rintro e wx ⟨rfl, hwx⟩
  rw [hwx]
  clear hwx wx
  go_wp2_with fail
  refine (slashes_any p hzp _).mono ?_
  rw [← HC.out]
  rintro e wx ⟨rfl, hwx⟩
  rw [hwx]
  clear hwx wx
  go_wp2_with fail
  refine (check_any p hzp _).mono ?_
  rw [HP.out]
  rintro e W5 ⟨rfl, hW5⟩
  go_wp2
  go_ret
  exact ⟨rfl, (below_then (below_then (below_then (below_then (below_then hW0 hW1) hW2) hW3) hW4) hW5)⟩

theorem topGlob_e0big_one (p q s t : ByteArray) (hp : p.size ≤ 30) (hq : q.size ≤ 30) (hs : s.size ≤ 60) (ht : t.size ≤ 60) (ha : matchR p s = true) (h2 : twoTo p p.size = false) (hm : matchR q t = true) (he : endsB p = false) (hg : 24 < p.size + q.size) (w : World) :
    Calls Try.prog 4 #[.string p, .string q, .string s, .string t] w fun e w' => e = .returned (.bool true) ∧ Below w.heap.size w w' := by
  have HU := hide (show matchR ⟨#[97, 63]⟩ ⟨#[97, 98]⟩ = true by decide +kernel)
  have dp : decide ((30 : Int) < (p.size : Int)) = false := by simp; omega
  have dq : decide ((30 : Int) < (q.size : Int)) = false := by simp; omega
  have ds : decide ((60 : Int) < (s.size : Int)) = false := by simp; omega
  have dt : decide ((60 : Int) < (t.size : Int)) = false := by simp; omega
  have hzp : p.size ≤ 1000 := by omega
  have hzq : q.size ≤ 1000 := by omega
  have hzs : s.size ≤ 1000 := by omega
  have hzt : t.size ≤ 1000 := by omega
  obtain ⟨ps, hP⟩ := match_parse ha
  have HE := hide he
  have HC := hide (match_cnt (noTwo_of h2) ha)
  have bc : (!((cnt s s.size : Int) == (cnt s s.size : Int))) = false := by simp
  have dg : decide ((24 : Int) < (p.size : Int) + (q.size : Int)) = true := by simp; omega
  have HA := hide ha
  have HT := hide h2
  have HM := hide hm
  have HP := hide hP
  clear ha h2 hm hP he
  go_enter Try.func4, Try.ntmps4
  go_wp2_with fail
  refine (match_any ⟨#[97, 63]⟩ ⟨#[97, 98]⟩ (by decide) (by decide) _).mono ?_
  rw [HU.out]
  rintro e W0 ⟨rfl, hW0⟩
  go_wp2_with fail
  refine (stars_any p hzp _).mono ?_
  rw [HE.out, HT.out]
  rintro e W1 ⟨rfl, hW1⟩
  go_wp2_with fail
  refine (stars_any q hzq _).mono ?_
  rintro e W2 ⟨rfl, hW2⟩
  go_wp2_with fail
  refine (match_any p s hzp hzs _).mono ?_
  rw [HA.out]
  rintro e W3 ⟨rfl, hW3⟩
  go_wp2_with fail
  refine (match_any q t hzq hzt _).mono ?_
  rw [HM.out]
  rintro e W4 ⟨rfl, hW4⟩
  go_wp2_with fail
  refine (slashes_any s hzs _).mono ?_
  rintro e wx ⟨rfl, hwx⟩
  rw [hwx]
  clear hwx wx
  go_wp2_with fail
  refine (slashes_any p hzp _).mono ?_
  rw [← HC.out]
  rintro e wx ⟨rfl, hwx⟩
  rw [hwx]
  clear hwx wx
  go_wp2_with fail
  refine (check_any p hzp _).mono ?_
  rw [HP.out]
  rintro e W5 ⟨rfl, hW5⟩
  go_wp2
  go_ret
  exact ⟨rfl, (below_then (below_then (below_then (below_then (below_then hW0 hW1) hW2) hW3) hW4) hW5)⟩

theorem topGlob_g0big_one (p q s t : ByteArray) (hp : p.size ≤ 30) (hq : q.size ≤ 30) (hs : s.size ≤ 60) (ht : t.size ≤ 60) (ha : matchR p s = true) (h2 : twoTo p p.size = false) (hm : matchR q t = true) (he : endsB p = true) (hb : beginsB q = false) (hg : 24 < p.size + q.size) (w : World) :
    Calls Try.prog 4 #[.string p, .string q, .string s, .string t] w fun e w' => e = .returned (.bool true) ∧ Below w.heap.size w w' := by
  have HU := hide (show matchR ⟨#[97, 63]⟩ ⟨#[97, 98]⟩ = true by decide +kernel)
  have dp : decide ((30 : Int) < (p.size : Int)) = false := by simp; omega
  have dq : decide ((30 : Int) < (q.size : Int)) = false := by simp; omega
  have ds : decide ((60 : Int) < (s.size : Int)) = false := by simp; omega
  have dt : decide ((60 : Int) < (t.size : Int)) = false := by simp; omega
  have hzp : p.size ≤ 1000 := by omega
  have hzq : q.size ≤ 1000 := by omega
  have hzs : s.size ≤ 1000 := by omega
  have hzt : t.size ≤ 1000 := by omega
  obtain ⟨ps, hP⟩ := match_parse ha
  have HE := hide he
  have HB := hide hb
  have HC := hide (match_cnt (noTwo_of h2) ha)
  have bc : (!((cnt s s.size : Int) == (cnt s s.size : Int))) = false := by simp
  have dg : decide ((24 : Int) < (p.size : Int) + (q.size : Int)) = true := by simp; omega
  have HA := hide ha
  have HT := hide h2
  have HM := hide hm
  have HP := hide hP
  clear ha h2 hm hP he hb
  go_enter Try.func4, Try.ntmps4
  go_wp2_with fail
  refine (match_any ⟨#[97, 63]⟩ ⟨#[97, 98]⟩ (by decide) (by decide) _).mono ?_
  rw [HU.out]
  rintro e W0 ⟨rfl, hW0⟩
  go_wp2_with fail
  refine (stars_any p hzp _).mono ?_
  rw [HE.out, HT.out]
  rintro e W1 ⟨rfl, hW1⟩
  go_wp2_with fail
  refine (stars_any q hzq _).mono ?_
  rw [HB.out]
  rintro e W2 ⟨rfl, hW2⟩
  go_wp2_with fail
  refine (match_any p s hzp hzs _).mono ?_
  rw [HA.out]
  rintro e W3 ⟨rfl, hW3⟩
  go_wp2_with fail
  refine (match_any q t hzq hzt _).mono ?_
  rw [HM.out]
  rintro e W4 ⟨rfl, hW4⟩
  go_wp2_with fail
  refine (slashes_any s hzs _).mono ?_
  rintro e wx ⟨rfl, hwx⟩
  rw [hwx]
  clear hwx wx
  go_wp2_with fail
  refine (slashes_any p hzp _).mono ?_
  rw [← HC.out]
  rintro e wx ⟨rfl, hwx⟩
  rw [hwx]
  clear hwx wx
  go_wp2_with fail
  refine (check_any p hzp _).mono ?_
  rw [HP.out]
  rintro e W5 ⟨rfl, hW5⟩
  go_wp2
  go_ret
  exact ⟨rfl, (below_then (below_then (below_then (below_then (below_then hW0 hW1) hW2) hW3) hW4) hW5)⟩

theorem topGlob_e0_one (p q s t : ByteArray) (hp : p.size ≤ 30) (hq : q.size ≤ 30) (hs : s.size ≤ 60) (ht : t.size ≤ 60) (ha : matchR p s = true) (h2 : twoTo p p.size = false) (hm : matchR q t = true) (he : endsB p = false) (hg : p.size + q.size ≤ 24) (w : World) :
    Calls Try.prog 4 #[.string p, .string q, .string s, .string t] w fun e w' => e = .returned (.bool true) ∧ Below w.heap.size w w' := by
  have HU := hide (show matchR ⟨#[97, 63]⟩ ⟨#[97, 98]⟩ = true by decide +kernel)
  have dp : decide ((30 : Int) < (p.size : Int)) = false := by simp; omega
  have dq : decide ((30 : Int) < (q.size : Int)) = false := by simp; omega
  have ds : decide ((60 : Int) < (s.size : Int)) = false := by simp; omega
  have dt : decide ((60 : Int) < (t.size : Int)) = false := by simp; omega
  have hzp : p.size ≤ 1000 := by omega
  have hzq : q.size ≤ 1000 := by omega
  have hzs : s.size ≤ 1000 := by omega
  have hzt : t.size ≤ 1000 := by omega
  obtain ⟨ps, hP⟩ := match_parse ha
  have HE := hide he
  have HC := hide (match_cnt (noTwo_of h2) ha)
  have bc : (!((cnt s s.size : Int) == (cnt s s.size : Int))) = false := by simp
  have dg : decide ((24 : Int) < (p.size : Int) + (q.size : Int)) = false := by simp; omega
  obtain ⟨qs, hQ⟩ := match_parse hm
  have hx : ¬ (byteAt p (p.size - 1) = 42 ∧ byteAt q 0 = 42) := by
    obtain ⟨p1, _, _⟩ := parseR_parts hP
    obtain ⟨q1, _, _⟩ := parseR_parts hQ
    rintro ⟨x1, x2⟩
    unfold endsB at he
    rw [x1, decide_eq_true (show 0 < p.size by omega)] at he
    simp at he
  have hPQ := parseR_append hP hQ hx hg
  have HPQ := hide hPQ
  have HMM := hide (match_append hP hQ hPQ ha hm)
  have hzpq : (p ++ q).size ≤ 1000 := by rw [size_both]; omega
  have hzst : (s ++ t).size ≤ 1000 := by rw [size_both]; omega
  have HA := hide ha
  have HT := hide h2
  have HM := hide hm
  have HP := hide hP
  clear hPQ hQ hx ha h2 hm hP he
  go_enter Try.func4, Try.ntmps4
  go_wp2_with fail
  refine (match_any ⟨#[97, 63]⟩ ⟨#[97, 98]⟩ (by decide) (by decide) _).mono ?_
  rw [HU.out]
  rintro e W0 ⟨rfl, hW0⟩
  go_wp2_with fail
  refine (stars_any p hzp _).mono ?_
  rw [HE.out, HT.out]
  rintro e W1 ⟨rfl, hW1⟩
  go_wp2_with fail
  refine (stars_any q hzq _).mono ?_
  rintro e W2 ⟨rfl, hW2⟩
  go_wp2_with fail
  refine (match_any p s hzp hzs _).mono ?_
  rw [HA.out]
  rintro e W3 ⟨rfl, hW3⟩
  go_wp2_with fail
  refine (match_any q t hzq hzt _).mono ?_
  rw [HM.out]
  rintro e W4 ⟨rfl, hW4⟩
  go_wp2_with fail
  refine (slashes_any s hzs _).mono ?_
  rintro e wx ⟨rfl, hwx⟩
  rw [hwx]
  clear hwx wx
  go_wp2_with fail
  refine (slashes_any p hzp _).mono ?_
  rw [← HC.out]
  rintro e wx ⟨rfl, hwx⟩
  rw [hwx]
  clear hwx wx
  go_wp2_with fail
  refine (check_any p hzp _).mono ?_
  rw [HP.out]
  rintro e W5 ⟨rfl, hW5⟩
  go_wp2_with fail
  refine (check_any (p ++ q) hzpq _).mono ?_
  rw [HPQ.out]
  rintro e W6 ⟨rfl, hW6⟩
  go_wp2_with fail
  refine (match_any (p ++ q) (s ++ t) hzpq hzst _).mono ?_
  rw [HMM.out]
  rintro e W7 ⟨rfl, hW7⟩
  go_wp2
  go_ret
  exact ⟨rfl, (below_then (below_then (below_then (below_then (below_then (below_then (below_then hW0 hW1) hW2) hW3) hW4) hW5) hW6) hW7)⟩

theorem topGlob_g0_one (p q s t : ByteArray) (hp : p.size ≤ 30) (hq : q.size ≤ 30) (hs : s.size ≤ 60) (ht : t.size ≤ 60) (ha : matchR p s = true) (h2 : twoTo p p.size = false) (hm : matchR q t = true) (he : endsB p = true) (hb : beginsB q = false) (hg : p.size + q.size ≤ 24) (w : World) :
    Calls Try.prog 4 #[.string p, .string q, .string s, .string t] w fun e w' => e = .returned (.bool true) ∧ Below w.heap.size w w' := by
  have HU := hide (show matchR ⟨#[97, 63]⟩ ⟨#[97, 98]⟩ = true by decide +kernel)
  have dp : decide ((30 : Int) < (p.size : Int)) = false := by simp; omega
  have dq : decide ((30 : Int) < (q.size : Int)) = false := by simp; omega
  have ds : decide ((60 : Int) < (s.size : Int)) = false := by simp; omega
  have dt : decide ((60 : Int) < (t.size : Int)) = false := by simp; omega
  have hzp : p.size ≤ 1000 := by omega
  have hzq : q.size ≤ 1000 := by omega
  have hzs : s.size ≤ 1000 := by omega
  have hzt : t.size ≤ 1000 := by omega
  obtain ⟨ps, hP⟩ := match_parse ha
  have HE := hide he
  have HB := hide hb
  have HC := hide (match_cnt (noTwo_of h2) ha)
  have bc : (!((cnt s s.size : Int) == (cnt s s.size : Int))) = false := by simp
  have dg : decide ((24 : Int) < (p.size : Int) + (q.size : Int)) = false := by simp; omega
  obtain ⟨qs, hQ⟩ := match_parse hm
  have hx : ¬ (byteAt p (p.size - 1) = 42 ∧ byteAt q 0 = 42) := by
    obtain ⟨p1, _, _⟩ := parseR_parts hP
    obtain ⟨q1, _, _⟩ := parseR_parts hQ
    rintro ⟨x1, x2⟩
    unfold beginsB at hb
    rw [x2, decide_eq_true (show 0 < q.size by omega)] at hb
    simp at hb
  have hPQ := parseR_append hP hQ hx hg
  have HPQ := hide hPQ
  have HMM := hide (match_append hP hQ hPQ ha hm)
  have hzpq : (p ++ q).size ≤ 1000 := by rw [size_both]; omega
  have hzst : (s ++ t).size ≤ 1000 := by rw [size_both]; omega
  have HA := hide ha
  have HT := hide h2
  have HM := hide hm
  have HP := hide hP
  clear hPQ hQ hx ha h2 hm hP he hb
  go_enter Try.func4, Try.ntmps4
  go_wp2_with fail
  refine (match_any ⟨#[97, 63]⟩ ⟨#[97, 98]⟩ (by decide) (by decide) _).mono ?_
  rw [HU.out]
  rintro e W0 ⟨rfl, hW0⟩
  go_wp2_with fail
  refine (stars_any p hzp _).mono ?_
  rw [HE.out, HT.out]
  rintro e W1 ⟨rfl, hW1⟩
  go_wp2_with fail
  refine (stars_any q hzq _).mono ?_
  rw [HB.out]
  rintro e W2 ⟨rfl, hW2⟩
  go_wp2_with fail
  refine (match_any p s hzp hzs _).mono ?_
  rw [HA.out]
  rintro e W3 ⟨rfl, hW3⟩
  go_wp2_with fail
  refine (match_any q t hzq hzt _).mono ?_
  rw [HM.out]
  rintro e W4 ⟨rfl, hW4⟩
  go_wp2_with fail
  refine (slashes_any s hzs _).mono ?_
  rintro e wx ⟨rfl, hwx⟩
  rw [hwx]
  clear hwx wx
  go_wp2_with fail
  refine (slashes_any p hzp _).mono ?_
  rw [← HC.out]
  rintro e wx ⟨rfl, hwx⟩
  rw [hwx]
  clear hwx wx
  go_wp2_with fail
  refine (check_any p hzp _).mono ?_
  rw [HP.out]
  rintro e W5 ⟨rfl, hW5⟩
  go_wp2_with fail
  refine (check_any (p ++ q) hzpq _).mono ?_
  rw [HPQ.out]
  rintro e W6 ⟨rfl, hW6⟩
  go_wp2_with fail
  refine (match_any (p ++ q) (s ++ t) hzpq hzst _).mono ?_
  rw [HMM.out]
  rintro e W7 ⟨rfl, hW7⟩
  go_wp2
  go_ret
  exact ⟨rfl, (below_then (below_then (below_then (below_then (below_then (below_then (below_then hW0 hW1) hW2) hW3) hW4) hW5) hW6) hW7)⟩

theorem topGlob_any (p q s t : ByteArray) (hp : p.size ≤ 9223372036854775807) (hq : q.size ≤ 9223372036854775807) (hs : s.size ≤ 9223372036854775807) (ht : t.size ≤ 9223372036854775807) (w : World) :
    Calls Try.prog 4 #[.string p, .string q, .string s, .string t] w fun e w' => e = .returned (.bool true) ∧ Below w.heap.size w w' := by
  by_cases hx : 30 < p.size ∨ 30 < q.size ∨ 60 < s.size ∨ 60 < t.size
  · exact topGlob_wide p q s t hp hq hs ht hx w
  · have h1 : p.size ≤ 30 := by omega
    have h2 : q.size ≤ 30 := by omega
    have h3 : s.size ≤ 60 := by omega
    have h4 : t.size ≤ 60 := by omega
    cases ha : matchR p s
    · exact topGlob_not p q s t h1 h2 h3 h4 ha w
    · cases c2 : twoTo p p.size
      · cases hm : matchR q t
        · exact topGlob_b0_one p q s t h1 h2 h3 h4 ha c2 hm w
        · cases he : endsB p
          · by_cases hg : 24 < p.size + q.size
            · exact topGlob_e0big_one p q s t h1 h2 h3 h4 ha c2 hm he hg w
            · exact topGlob_e0_one p q s t h1 h2 h3 h4 ha c2 hm he (by omega) w
          · cases hb : beginsB q
            · by_cases hg : 24 < p.size + q.size
              · exact topGlob_g0big_one p q s t h1 h2 h3 h4 ha c2 hm he hb hg w
              · exact topGlob_g0_one p q s t h1 h2 h3 h4 ha c2 hm he hb (by omega) w
            · exact topGlob_eg_one p q s t h1 h2 h3 h4 ha c2 hm he hb w
      · cases hm : matchR q t
        · exact topGlob_b0_two p q s t h1 h2 h3 h4 ha c2 hm w
        · cases he : endsB p
          · by_cases hg : 24 < p.size + q.size
            · exact topGlob_e0big_two p q s t h1 h2 h3 h4 ha c2 hm he hg w
            · exact topGlob_e0_two p q s t h1 h2 h3 h4 ha c2 hm he (by omega) w
          · cases hb : beginsB q
            · by_cases hg : 24 < p.size + q.size
              · exact topGlob_g0big_two p q s t h1 h2 h3 h4 ha c2 hm he hb hg w
              · exact topGlob_g0_two p q s t h1 h2 h3 h4 ha c2 hm he hb (by omega) w
            · exact topGlob_eg_two p q s t h1 h2 h3 h4 ha c2 hm he hb w
end Go.Proofs.Ytaipgmnifnclbaa
