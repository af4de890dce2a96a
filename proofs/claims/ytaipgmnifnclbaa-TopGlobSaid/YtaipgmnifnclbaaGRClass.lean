/- The walk of the document's class. -/
import Derived.Test.YtaipgmnifnclbaaGMatch
namespace Go.Proofs.Ytaipgmnifnclbaa
open Go.RowKit

/-- Where the class ends, or -1. -/
def rclassV (p : ByteArray) (t : Nat) : Int := match classR (p.extract t p.size) with
  | none => -1
  | some (_, n) => t + n
theorem rclassV_none {p : ByteArray} {t : Nat} (h : classR (p.extract t p.size) = none) : rclassV p t = -1 := by unfold rclassV; rw [h]
theorem rclassV_some {p : ByteArray} {t n : Nat} {f : Nat → Bool} (h : classR (p.extract t p.size) = some (f, n)) : rclassV p t = t + n := by unfold rclassV; rw [h]

theorem memberAt_extract (p : ByteArray) (t k : Nat) (ht : t ≤ p.size) (hk : t ≤ k) : memberAt (p.extract t p.size) (k - t) = memberN (p.size - k) (byteAt p k) (byteAt p (k + 1)) (byteAt p (k + 2)) := by
  unfold memberAt
  rw [size_extract, byteAt_extract p t _ ht, byteAt_extract p t _ ht, byteAt_extract p t _ ht, show t + (k - t) = k by omega, show t + (k - t + 1) = k + 1 by omega, show t + (k - t + 2) = k + 2 by omega, show p.size - t - (k - t) = p.size - k by omega]

/-- A member there, in absolute places. -/
theorem scan_member {p : ByteArray} {t k fu v : Nat} {f : Nat → Bool} (ht : t ≤ p.size) (hk : t ≤ k) (hlt : k < p.size) (hne : byteAt p k ≠ 93) (hm : memberN (p.size - k) (byteAt p k) (byteAt p (k + 1)) (byteAt p (k + 2)) = v) :
    (v = 0 → scan (fu + 1) (p.extract t p.size) (k - t) f = none) ∧ (v ≠ 0 → ∃ g, scan (fu + 1) (p.extract t p.size) (k - t) f = scan fu (p.extract t p.size) (k + v - t) g) := by
  have h1 : k - t < (p.extract t p.size).size ∧ byteAt (p.extract t p.size) (k - t) ≠ 93 := by
    rw [size_extract, byteAt_extract p t _ ht, show t + (k - t) = k by omega]
    exact ⟨by omega, hne⟩
  have h2 : memberAt (p.extract t p.size) (k - t) = v := (memberAt_extract p t k ht hk).trans hm
  constructor
  · intro hv
    rw [scan, if_pos h1, h2, if_pos hv]
  · intro hv
    rw [scan, if_pos h1, h2, if_neg hv, show k - t + v = k + v - t by omega]
    exact ⟨_, rfl⟩
theorem scan_stop {p : ByteArray} {t k fu : Nat} {f : Nat → Bool} (ht : t ≤ p.size) (hk : t ≤ k) (h : ¬ (k < p.size ∧ byteAt p k ≠ 93)) : scan (fu + 1) (p.extract t p.size) (k - t) f = some (k - t, f) := by
  rw [scan, if_neg]
  rw [size_extract, byteAt_extract p t _ ht, show t + (k - t) = k by omega]
  intro h'
  exact h ⟨by omega, h'.2⟩

set_option maxRecDepth 10000 in
set_option maxHeartbeats 1000000 in
theorem rclass_yes (p : ByteArray) (t : Nat) (_ht : t < p.size) (hz : p.size ≤ 1000) (hn : notB (p.extract t p.size) = true) (hlt1 : t + 1 < p.size) (b1 : ((byteAt p (t + 1) : Int) == 33) = true) (w : World) :
    Calls Try.prog 19 #[.string p, .int .i64 t] w fun e w' => e = .returned (.int .i64 (rclassV p t)) ∧ w' = w := by
  have hB : classBegin (p.extract t p.size) = 2 := by unfold classBegin; rw [hn]; rfl
  have hC : classR (p.extract t p.size) = classFin true 2 (p.size - t) (scan (p.size - t + 1) (p.extract t p.size) 2 fun _ => false) := by unfold classR; rw [hn, hB, size_extract]
  have HC := hide hC
  clear hC hB hn
  have e1 := byteAt_eq p (t + 1) hlt1
  have d0 : decide ((t : Int) + 1 < (p.size : Int)) = true := by simp; omega
  · skip
    go_enter Try.func19, Try.ntmps19
    go_wp2_with fail
    go_loop [5, 6] (fun i c => ∃ (k : Nat) (f : Nat → Bool) (cnt fuel : Nat), t ≤ k ∧ k ≤ p.size ∧ i = .int .i64 k ∧ c = .int .i64 cnt ∧ cnt + t + 2 ≤ k ∧ (cnt = 0 ↔ k = t + 2) ∧ p.size - k < fuel ∧ scan fuel (p.extract t p.size) (k - t) f = scan (p.size - t + 1) (p.extract t p.size) 2 (fun _ => false)) (fun i _ => p.size - (intOf i).toNat)
    case atStart => exact ⟨t + 2, fun _ => false, 0, p.size - t + 1, by omega, by omega, by go_num, rfl, by omega, by simp, by omega, by rw [show t + 2 - t = 2 by omega]⟩
    case round =>
      obtain ⟨k, f, cnt, fuel, hk1, hk2, rfl, rfl, hcnt, hcz, hfuel, hsc⟩ := hrel
      obtain ⟨fu, rfl⟩ : ∃ fu, fuel = fu + 1 := ⟨fuel - 1, by omega⟩
      have Hsc := hide hsc
      have Hcz := hide hcz
      clear hsc hcz
      by_cases hgo : k < p.size ∧ byteAt p k ≠ 93
      · obtain ⟨hlt, hne⟩ := hgo
        have ek := byteAt_eq p k hlt
        have bk : (((byteAt p k : Nat) : Int) != 93) = true := by rw [bne_iff_ne]; omega
        have dk : decide ((k : Int) < (p.size : Int)) = true := by simp; omega
        cases n0 : nameB (byteAt p k)
        · have hm : memberN (p.size - k) (byteAt p k) (byteAt p (k + 1)) (byteAt p (k + 2)) = 0 := by unfold memberN; rw [if_neg (by rw [n0]; simp)]
          have HV := hide (rclassV_none (by rw [HC.out, ← Hsc.out, (scan_member (by omega) hk1 hlt hne hm).1 rfl]; rfl))
          clear HC Hsc hm
          go_wp2_with (go_at_call 28; refine (letter_any _ _).mono ?_; rintro e w' ⟨rfl, rfl⟩)
          go_ret
          exact ⟨ret_int (by rw [HV.out]), rfl⟩
        · by_cases h1 : k + 1 < p.size
          · have d1 : decide ((k : Int) + 1 < (p.size : Int)) = true := by simp; omega
            have e1 := byteAt_eq p (k + 1) h1
            by_cases h45 : byteAt p (k + 1) = 45
            · have b45 : (((byteAt p (k + 1) : Nat) : Int) == 45) = true := by rw [beq_iff_eq]; omega
              by_cases h2 : k + 2 < p.size
              · have b2 : ((k : Int) + 1 + 1 == (p.size : Int)) = false := by rw [beq_eq_false_iff_ne]; omega
                have b2' : ((k : Int) + 2 == (p.size : Int)) = false := by rw [beq_eq_false_iff_ne]; omega
                have e2 := byteAt_eq p (k + 2) h2
                cases n2 : nameB (byteAt p (k + 2))
                · have hm : memberN (p.size - k) (byteAt p k) (byteAt p (k + 1)) (byteAt p (k + 2)) = 0 := by unfold memberN; rw [if_pos n0, if_neg (by omega), if_pos h45, if_neg (by omega), if_neg (by rw [n2]; simp)]
                  clear h45
                  have HV := hide (rclassV_none (by rw [HC.out, ← Hsc.out, (scan_member (by omega) hk1 hlt hne hm).1 rfl]; rfl))
                  clear HC Hsc hm
                  go_wp2_with (go_at_call 28; refine (letter_any _ _).mono ?_; rintro e w' ⟨rfl, rfl⟩)
                  go_ret
                  exact ⟨ret_int (by rw [HV.out]), rfl⟩
                · by_cases hlo : byteAt p (k + 2) < byteAt p k
                  · have dl : decide ((byteAt p (k + 2) : Int) < (byteAt p k : Int)) = true := by simp; omega
                    have hm : memberN (p.size - k) (byteAt p k) (byteAt p (k + 1)) (byteAt p (k + 2)) = 0 := by unfold memberN; rw [if_pos n0, if_neg (by omega), if_pos h45, if_neg (by omega), if_pos n2, if_pos hlo]
                    clear h45
                    have HV := hide (rclassV_none (by rw [HC.out, ← Hsc.out, (scan_member (by omega) hk1 hlt hne hm).1 rfl]; rfl))
                    clear HC Hsc hm
                    go_wp2_with (go_at_call 28; refine (letter_any _ _).mono ?_; rintro e w' ⟨rfl, rfl⟩)
                    go_ret
                    exact ⟨ret_int (by rw [HV.out]), rfl⟩
                  · have dl : decide ((byteAt p (k + 2) : Int) < (byteAt p k : Int)) = false := by simp; omega
                    have hm : memberN (p.size - k) (byteAt p k) (byteAt p (k + 1)) (byteAt p (k + 2)) = 3 := by unfold memberN; rw [if_pos n0, if_neg (by omega), if_pos h45, if_neg (by omega), if_pos n2, if_neg hlo]
                    clear h45
                    obtain ⟨g, hg⟩ := (scan_member (fu := fu) (f := f) (by omega) hk1 hlt hne hm).2 (by omega)
                    have HG := hide (hg.symm.trans Hsc.out)
                    clear hg HC Hsc hm
                    go_wp2_with (go_at_call 28; refine (letter_any _ _).mono ?_; rintro e w' ⟨rfl, rfl⟩)
                    go_round
                    case rel => exact ⟨k + 3, g, cnt + 1, fu, by omega, by omega, by go_num, by go_num, by omega, by omega, by omega, HG.out⟩
                    case measure => simp [intOf]; omega
              · have b2 : ((k : Int) + 1 + 1 == (p.size : Int)) = true := by rw [beq_iff_eq]; omega
                have b2' : ((k : Int) + 2 == (p.size : Int)) = true := by rw [beq_iff_eq]; omega
                have hm : memberN (p.size - k) (byteAt p k) (byteAt p (k + 1)) (byteAt p (k + 2)) = 0 := by unfold memberN; rw [if_pos n0, if_neg (by omega), if_pos h45, if_pos (by omega)]
                clear h45
                have HV := hide (rclassV_none (by rw [HC.out, ← Hsc.out, (scan_member (by omega) hk1 hlt hne hm).1 rfl]; rfl))
                clear HC Hsc hm
                go_wp2_with (go_at_call 28; refine (letter_any _ _).mono ?_; rintro e w' ⟨rfl, rfl⟩)
                go_ret
                exact ⟨ret_int (by rw [HV.out]), rfl⟩
            · have b45 : (((byteAt p (k + 1) : Nat) : Int) == 45) = false := by rw [beq_eq_false_iff_ne]; omega
              have hm : memberN (p.size - k) (byteAt p k) (byteAt p (k + 1)) (byteAt p (k + 2)) = 1 := by unfold memberN; rw [if_pos n0, if_neg (by omega), if_neg h45]
              clear h45
              obtain ⟨g, hg⟩ := (scan_member (fu := fu) (f := f) (by omega) hk1 hlt hne hm).2 (by omega)
              have HG := hide (hg.symm.trans Hsc.out)
              clear hg HC Hsc hm
              go_wp2_with (go_at_call 28; refine (letter_any _ _).mono ?_; rintro e w' ⟨rfl, rfl⟩)
              go_round
              case rel => exact ⟨k + 1, g, cnt + 1, fu, by omega, by omega, by go_num, by go_num, by omega, by omega, by omega, HG.out⟩
              case measure => simp [intOf]; omega
          · have d1 : decide ((k : Int) + 1 < (p.size : Int)) = false := by simp; omega
            have hm : memberN (p.size - k) (byteAt p k) (byteAt p (k + 1)) (byteAt p (k + 2)) = 1 := by unfold memberN; rw [if_pos n0, if_pos (by omega)]
            obtain ⟨g, hg⟩ := (scan_member (fu := fu) (f := f) (by omega) hk1 hlt hne hm).2 (by omega)
            have HG := hide (hg.symm.trans Hsc.out)
            clear hg HC Hsc hm
            go_wp2_with (go_at_call 28; refine (letter_any _ _).mono ?_; rintro e w' ⟨rfl, rfl⟩)
            go_round
            case rel => exact ⟨k + 1, g, cnt + 1, fu, by omega, by omega, by go_num, by go_num, by omega, by omega, by omega, HG.out⟩
            case measure => simp [intOf]; omega
      · have hst := scan_stop (fu := fu) (f := f) (by omega) hk1 hgo
        have hR0 : classR (p.extract t p.size) = classFin true 2 (p.size - t) (some (k - t, f)) := by rw [HC.out, ← Hsc.out, hst]
        clear HC Hsc hst
        by_cases hend : k = p.size
        · have HV := hide (rclassV_none (by rw [hR0]; simp [classFin, hend]))
          have dk : decide ((k : Int) < (p.size : Int)) = false := by simp; omega
          have be : ((k : Int) == (p.size : Int)) = true := by rw [beq_iff_eq]; omega
          clear hR0 hend hgo
          go_wp2_with fail
          go_ret
          exact ⟨ret_int (by rw [HV.out]), rfl⟩
        · have hlt : k < p.size := by omega
          have h93 : byteAt p k = 93 := Decidable.byContradiction fun h => hgo ⟨hlt, h⟩
          have ek := byteAt_eq p k hlt
          have bk : (((byteAt p k : Nat) : Int) != 93) = false := by rw [bne_eq_false_iff_eq]; omega
          have dk : decide ((k : Int) < (p.size : Int)) = true := by simp; omega
          have be : ((k : Int) == (p.size : Int)) = false := by rw [beq_eq_false_iff_ne]; omega
          clear hgo h93
          by_cases hb : cnt = 0
          · have hkb := Hcz.out.1 hb
            have HV := hide (rclassV_none (by rw [hR0]; simp [classFin, hkb]))
            have bc : ((cnt : Int) == 0) = true := by rw [beq_iff_eq]; omega
            clear hR0 hb hend hkb
            go_wp2_with fail
            go_ret
            exact ⟨ret_int (by rw [HV.out]), rfl⟩
          · have hkb : ¬ k = t + 2 := fun h => hb (Hcz.out.2 h)
            have HV := hide (rclassV_some (p := p) (t := t) (n := k - t + 1) (f := upd (if true = true then fun i => !f i else f) 47 false) (by rw [hR0]; simp only [classFin]; rw [if_neg (by omega)]))
            have bc : ((cnt : Int) == 0) = false := by rw [beq_eq_false_iff_ne]; omega
            clear hR0 hb hend hkb
            go_wp2_with fail
            go_ret
            exact ⟨ret_int (by rw [HV.out]; omega), rfl⟩

set_option maxRecDepth 10000 in
set_option maxHeartbeats 1000000 in
theorem rclass_no (p : ByteArray) (t : Nat) (_ht : t < p.size) (hz : p.size ≤ 1000) (hn : notB (p.extract t p.size) = false) (hlt1 : t + 1 < p.size) (b1 : ((byteAt p (t + 1) : Int) == 33) = false) (w : World) :
    Calls Try.prog 19 #[.string p, .int .i64 t] w fun e w' => e = .returned (.int .i64 (rclassV p t)) ∧ w' = w := by
  have hB : classBegin (p.extract t p.size) = 1 := by unfold classBegin; rw [hn]; rfl
  have hC : classR (p.extract t p.size) = classFin false 1 (p.size - t) (scan (p.size - t + 1) (p.extract t p.size) 1 fun _ => false) := by unfold classR; rw [hn, hB, size_extract]
  have HC := hide hC
  clear hC hB hn
  have e1 := byteAt_eq p (t + 1) hlt1
  have d0 : decide ((t : Int) + 1 < (p.size : Int)) = true := by simp; omega
  · skip
    go_enter Try.func19, Try.ntmps19
    go_wp2_with fail
    go_loop [5, 6] (fun i c => ∃ (k : Nat) (f : Nat → Bool) (cnt fuel : Nat), t ≤ k ∧ k ≤ p.size ∧ i = .int .i64 k ∧ c = .int .i64 cnt ∧ cnt + t + 1 ≤ k ∧ (cnt = 0 ↔ k = t + 1) ∧ p.size - k < fuel ∧ scan fuel (p.extract t p.size) (k - t) f = scan (p.size - t + 1) (p.extract t p.size) 1 (fun _ => false)) (fun i _ => p.size - (intOf i).toNat)
    case atStart => exact ⟨t + 1, fun _ => false, 0, p.size - t + 1, by omega, by omega, by go_num, rfl, by omega, by simp, by omega, by rw [show t + 1 - t = 1 by omega]⟩
    case round =>
      obtain ⟨k, f, cnt, fuel, hk1, hk2, rfl, rfl, hcnt, hcz, hfuel, hsc⟩ := hrel
      obtain ⟨fu, rfl⟩ : ∃ fu, fuel = fu + 1 := ⟨fuel - 1, by omega⟩
      have Hsc := hide hsc
      have Hcz := hide hcz
      clear hsc hcz
      by_cases hgo : k < p.size ∧ byteAt p k ≠ 93
      · obtain ⟨hlt, hne⟩ := hgo
        have ek := byteAt_eq p k hlt
        have bk : (((byteAt p k : Nat) : Int) != 93) = true := by rw [bne_iff_ne]; omega
        have dk : decide ((k : Int) < (p.size : Int)) = true := by simp; omega
        cases n0 : nameB (byteAt p k)
        · have hm : memberN (p.size - k) (byteAt p k) (byteAt p (k + 1)) (byteAt p (k + 2)) = 0 := by unfold memberN; rw [if_neg (by rw [n0]; simp)]
          have HV := hide (rclassV_none (by rw [HC.out, ← Hsc.out, (scan_member (by omega) hk1 hlt hne hm).1 rfl]; rfl))
          clear HC Hsc hm
          go_wp2_with (go_at_call 28; refine (letter_any _ _).mono ?_; rintro e w' ⟨rfl, rfl⟩)
          go_ret
          exact ⟨ret_int (by rw [HV.out]), rfl⟩
        · by_cases h1 : k + 1 < p.size
          · have d1 : decide ((k : Int) + 1 < (p.size : Int)) = true := by simp; omega
            have e1 := byteAt_eq p (k + 1) h1
            by_cases h45 : byteAt p (k + 1) = 45
            · have b45 : (((byteAt p (k + 1) : Nat) : Int) == 45) = true := by rw [beq_iff_eq]; omega
              by_cases h2 : k + 2 < p.size
              · have b2 : ((k : Int) + 1 + 1 == (p.size : Int)) = false := by rw [beq_eq_false_iff_ne]; omega
                have b2' : ((k : Int) + 2 == (p.size : Int)) = false := by rw [beq_eq_false_iff_ne]; omega
                have e2 := byteAt_eq p (k + 2) h2
                cases n2 : nameB (byteAt p (k + 2))
                · have hm : memberN (p.size - k) (byteAt p k) (byteAt p (k + 1)) (byteAt p (k + 2)) = 0 := by unfold memberN; rw [if_pos n0, if_neg (by omega), if_pos h45, if_neg (by omega), if_neg (by rw [n2]; simp)]
                  clear h45
                  have HV := hide (rclassV_none (by rw [HC.out, ← Hsc.out, (scan_member (by omega) hk1 hlt hne hm).1 rfl]; rfl))
                  clear HC Hsc hm
                  go_wp2_with (go_at_call 28; refine (letter_any _ _).mono ?_; rintro e w' ⟨rfl, rfl⟩)
                  go_ret
                  exact ⟨ret_int (by rw [HV.out]), rfl⟩
                · by_cases hlo : byteAt p (k + 2) < byteAt p k
                  · have dl : decide ((byteAt p (k + 2) : Int) < (byteAt p k : Int)) = true := by simp; omega
                    have hm : memberN (p.size - k) (byteAt p k) (byteAt p (k + 1)) (byteAt p (k + 2)) = 0 := by unfold memberN; rw [if_pos n0, if_neg (by omega), if_pos h45, if_neg (by omega), if_pos n2, if_pos hlo]
                    clear h45
                    have HV := hide (rclassV_none (by rw [HC.out, ← Hsc.out, (scan_member (by omega) hk1 hlt hne hm).1 rfl]; rfl))
                    clear HC Hsc hm
                    go_wp2_with (go_at_call 28; refine (letter_any _ _).mono ?_; rintro e w' ⟨rfl, rfl⟩)
                    go_ret
                    exact ⟨ret_int (by rw [HV.out]), rfl⟩
                  · have dl : decide ((byteAt p (k + 2) : Int) < (byteAt p k : Int)) = false := by simp; omega
                    have hm : memberN (p.size - k) (byteAt p k) (byteAt p (k + 1)) (byteAt p (k + 2)) = 3 := by unfold memberN; rw [if_pos n0, if_neg (by omega), if_pos h45, if_neg (by omega), if_pos n2, if_neg hlo]
                    clear h45
                    obtain ⟨g, hg⟩ := (scan_member (fu := fu) (f := f) (by omega) hk1 hlt hne hm).2 (by omega)
                    have HG := hide (hg.symm.trans Hsc.out)
                    clear hg HC Hsc hm
                    go_wp2_with (go_at_call 28; refine (letter_any _ _).mono ?_; rintro e w' ⟨rfl, rfl⟩)
                    go_round
                    case rel => exact ⟨k + 3, g, cnt + 1, fu, by omega, by omega, by go_num, by go_num, by omega, by omega, by omega, HG.out⟩
                    case measure => simp [intOf]; omega
              · have b2 : ((k : Int) + 1 + 1 == (p.size : Int)) = true := by rw [beq_iff_eq]; omega
                have b2' : ((k : Int) + 2 == (p.size : Int)) = true := by rw [beq_iff_eq]; omega
                have hm : memberN (p.size - k) (byteAt p k) (byteAt p (k + 1)) (byteAt p (k + 2)) = 0 := by unfold memberN; rw [if_pos n0, if_neg (by omega), if_pos h45, if_pos (by omega)]
                clear h45
                have HV := hide (rclassV_none (by rw [HC.out, ← Hsc.out, (scan_member (by omega) hk1 hlt hne hm).1 rfl]; rfl))
                clear HC Hsc hm
                go_wp2_with (go_at_call 28; refine (letter_any _ _).mono ?_; rintro e w' ⟨rfl, rfl⟩)
                go_ret
                exact ⟨ret_int (by rw [HV.out]), rfl⟩
            · have b45 : (((byteAt p (k + 1) : Nat) : Int) == 45) = false := by rw [beq_eq_false_iff_ne]; omega
              have hm : memberN (p.size - k) (byteAt p k) (byteAt p (k + 1)) (byteAt p (k + 2)) = 1 := by unfold memberN; rw [if_pos n0, if_neg (by omega), if_neg h45]
              clear h45
              obtain ⟨g, hg⟩ := (scan_member (fu := fu) (f := f) (by omega) hk1 hlt hne hm).2 (by omega)
              have HG := hide (hg.symm.trans Hsc.out)
              clear hg HC Hsc hm
              go_wp2_with (go_at_call 28; refine (letter_any _ _).mono ?_; rintro e w' ⟨rfl, rfl⟩)
              go_round
              case rel => exact ⟨k + 1, g, cnt + 1, fu, by omega, by omega, by go_num, by go_num, by omega, by omega, by omega, HG.out⟩
              case measure => simp [intOf]; omega
          · have d1 : decide ((k : Int) + 1 < (p.size : Int)) = false := by simp; omega
            have hm : memberN (p.size - k) (byteAt p k) (byteAt p (k + 1)) (byteAt p (k + 2)) = 1 := by unfold memberN; rw [if_pos n0, if_pos (by omega)]
            obtain ⟨g, hg⟩ := (scan_member (fu := fu) (f := f) (by omega) hk1 hlt hne hm).2 (by omega)
            have HG := hide (hg.symm.trans Hsc.out)
            clear hg HC Hsc hm
            go_wp2_with (go_at_call 28; refine (letter_any _ _).mono ?_; rintro e w' ⟨rfl, rfl⟩)
            go_round
            case rel => exact ⟨k + 1, g, cnt + 1, fu, by omega, by omega, by go_num, by go_num, by omega, by omega, by omega, HG.out⟩
            case measure => simp [intOf]; omega
      · have hst := scan_stop (fu := fu) (f := f) (by omega) hk1 hgo
        have hR0 : classR (p.extract t p.size) = classFin false 1 (p.size - t) (some (k - t, f)) := by rw [HC.out, ← Hsc.out, hst]
        clear HC Hsc hst
        by_cases hend : k = p.size
        · have HV := hide (rclassV_none (by rw [hR0]; simp [classFin, hend]))
          have dk : decide ((k : Int) < (p.size : Int)) = false := by simp; omega
          have be : ((k : Int) == (p.size : Int)) = true := by rw [beq_iff_eq]; omega
          clear hR0 hend hgo
          go_wp2_with fail
          go_ret
          exact ⟨ret_int (by rw [HV.out]), rfl⟩
        · have hlt : k < p.size := by omega
          have h93 : byteAt p k = 93 := Decidable.byContradiction fun h => hgo ⟨hlt, h⟩
          have ek := byteAt_eq p k hlt
          have bk : (((byteAt p k : Nat) : Int) != 93) = false := by rw [bne_eq_false_iff_eq]; omega
          have dk : decide ((k : Int) < (p.size : Int)) = true := by simp; omega
          have be : ((k : Int) == (p.size : Int)) = false := by rw [beq_eq_false_iff_ne]; omega
          clear hgo h93
          by_cases hb : cnt = 0
          · have hkb := Hcz.out.1 hb
            have HV := hide (rclassV_none (by rw [hR0]; simp [classFin, hkb]))
            have bc : ((cnt : Int) == 0) = true := by rw [beq_iff_eq]; omega
            clear hR0 hb hend hkb
            go_wp2_with fail
            go_ret
            exact ⟨ret_int (by rw [HV.out]), rfl⟩
          · have hkb : ¬ k = t + 1 := fun h => hb (Hcz.out.2 h)
            have HV := hide (rclassV_some (p := p) (t := t) (n := k - t + 1) (f := upd (if false = true then fun i => !f i else f) 47 false) (by rw [hR0]; simp only [classFin]; rw [if_neg (by omega)]))
            have bc : ((cnt : Int) == 0) = false := by rw [beq_eq_false_iff_ne]; omega
            clear hR0 hb hend hkb
            go_wp2_with fail
            go_ret
            exact ⟨ret_int (by rw [HV.out]; omega), rfl⟩

set_option maxRecDepth 10000 in
set_option maxHeartbeats 1000000 in
theorem rclass_end (p : ByteArray) (t : Nat) (_ht : t < p.size) (hz : p.size ≤ 1000) (hn : notB (p.extract t p.size) = false) (hlt1 : ¬ t + 1 < p.size) (w : World) :
    Calls Try.prog 19 #[.string p, .int .i64 t] w fun e w' => e = .returned (.int .i64 (rclassV p t)) ∧ w' = w := by
  have hB : classBegin (p.extract t p.size) = 1 := by unfold classBegin; rw [hn]; rfl
  have hC : classR (p.extract t p.size) = classFin false 1 (p.size - t) (scan (p.size - t + 1) (p.extract t p.size) 1 fun _ => false) := by unfold classR; rw [hn, hB, size_extract]
  have HC := hide hC
  clear hC hB hn
  have d0 : decide ((t : Int) + 1 < (p.size : Int)) = false := by simp; omega
  · skip
    go_enter Try.func19, Try.ntmps19
    go_wp2_with fail
    go_loop [5, 6] (fun i c => ∃ (k : Nat) (f : Nat → Bool) (cnt fuel : Nat), t ≤ k ∧ k ≤ p.size ∧ i = .int .i64 k ∧ c = .int .i64 cnt ∧ cnt + t + 1 ≤ k ∧ (cnt = 0 ↔ k = t + 1) ∧ p.size - k < fuel ∧ scan fuel (p.extract t p.size) (k - t) f = scan (p.size - t + 1) (p.extract t p.size) 1 (fun _ => false)) (fun i _ => p.size - (intOf i).toNat)
    case atStart => exact ⟨t + 1, fun _ => false, 0, p.size - t + 1, by omega, by omega, by go_num, rfl, by omega, by simp, by omega, by rw [show t + 1 - t = 1 by omega]⟩
    case round =>
      obtain ⟨k, f, cnt, fuel, hk1, hk2, rfl, rfl, hcnt, hcz, hfuel, hsc⟩ := hrel
      obtain ⟨fu, rfl⟩ : ∃ fu, fuel = fu + 1 := ⟨fuel - 1, by omega⟩
      have Hsc := hide hsc
      have Hcz := hide hcz
      clear hsc hcz
      by_cases hgo : k < p.size ∧ byteAt p k ≠ 93
      · exfalso; omega
      · have hst := scan_stop (fu := fu) (f := f) (by omega) hk1 hgo
        have hR0 : classR (p.extract t p.size) = classFin false 1 (p.size - t) (some (k - t, f)) := by rw [HC.out, ← Hsc.out, hst]
        clear HC Hsc hst
        by_cases hend : k = p.size
        · have HV := hide (rclassV_none (by rw [hR0]; simp [classFin, hend]))
          have dk : decide ((k : Int) < (p.size : Int)) = false := by simp; omega
          have be : ((k : Int) == (p.size : Int)) = true := by rw [beq_iff_eq]; omega
          clear hR0 hend hgo
          go_wp2_with fail
          go_ret
          exact ⟨ret_int (by rw [HV.out]), rfl⟩
        · have hlt : k < p.size := by omega
          have h93 : byteAt p k = 93 := Decidable.byContradiction fun h => hgo ⟨hlt, h⟩
          have ek := byteAt_eq p k hlt
          have bk : (((byteAt p k : Nat) : Int) != 93) = false := by rw [bne_eq_false_iff_eq]; omega
          have dk : decide ((k : Int) < (p.size : Int)) = true := by simp; omega
          have be : ((k : Int) == (p.size : Int)) = false := by rw [beq_eq_false_iff_ne]; omega
          clear hgo h93
          by_cases hb : cnt = 0
          · have hkb := Hcz.out.1 hb
            have HV := hide (rclassV_none (by rw [hR0]; simp [classFin, hkb]))
            have bc : ((cnt : Int) == 0) = true := by rw [beq_iff_eq]; omega
            clear hR0 hb hend hkb
            go_wp2_with fail
            go_ret
            exact ⟨ret_int (by rw [HV.out]), rfl⟩
          · have hkb : ¬ k = t + 1 := fun h => hb (Hcz.out.2 h)
            have HV := hide (rclassV_some (p := p) (t := t) (n := k - t + 1) (f := upd (if false = true then fun i => !f i else f) 47 false) (by rw [hR0]; simp only [classFin]; rw [if_neg (by omega)]))
            have bc : ((cnt : Int) == 0) = false := by rw [beq_eq_false_iff_ne]; omega
            clear hR0 hb hend hkb
            go_wp2_with fail
            go_ret
            exact ⟨ret_int (by rw [HV.out]; omega), rfl⟩

theorem rclass_any (p : ByteArray) (t : Nat) (ht : t < p.size) (hz : p.size ≤ 1000) (w : World) :
    Calls Try.prog 19 #[.string p, .int .i64 t] w fun e w' => e = .returned (.int .i64 (rclassV p t)) ∧ w' = w := by
  have h : notB (p.extract t p.size) = (decide (1 < p.size - t) && byteAt p (t + 1) == 33) := by unfold notB; rw [size_extract, byteAt_extract p t 1 (by omega)]
  cases hn : notB (p.extract t p.size)
  · by_cases hlt : t + 1 < p.size
    · rw [hn] at h
      refine rclass_no p t ht hz hn hlt ?_ w
      rw [beq_eq_false_iff_ne]
      intro h33
      rw [show byteAt p (t + 1) = 33 by omega] at h
      simp at h
      omega
    · exact rclass_end p t ht hz hn hlt w
  · rw [hn] at h
    have h' := h.symm
    simp at h'
    exact rclass_yes p t ht hz hn (by omega) (by rw [beq_iff_eq]; omega) w
end Go.Proofs.Ytaipgmnifnclbaa
