/- The walk of the document's single. -/
import Derived.Test.YtaipgmnifnclbaaGRClass
namespace Go.Proofs.Ytaipgmnifnclbaa
open Go.RowKit

theorem scan_inv {fu : Nat} {s : ByteArray} {i e : Nat} {g fe : Nat → Bool} (h : scan (fu + 1) s i g = some (e, fe)) :
    (i = e ∧ g = fe ∧ ¬ (i < s.size ∧ byteAt s i ≠ 93)) ∨ (i < s.size ∧ byteAt s i ≠ 93 ∧ memberAt s i ≠ 0 ∧ scan fu s (i + memberAt s i) (addRange g (byteAt s i) (byteAt s (i + memberAt s i - 1))) = some (e, fe)) := by
  rw [scan] at h
  split at h
  · rename_i hc
    split at h
    · simp at h
    · rename_i hm
      exact .inr ⟨hc.1, hc.2, hm, h⟩
  · rename_i hc
    simp only [Option.some.injEq, Prod.mk.injEq] at h
    exact .inl ⟨h.1, h.2, hc⟩
theorem scan_ge : ∀ (k : Nat) (s : ByteArray) (i : Nat) (g : Nat → Bool) (e : Nat) (fe : Nat → Bool), scan k s i g = some (e, fe) → i ≤ e ∧ ¬ (e < s.size ∧ byteAt s e ≠ 93)
  | 0, _, _, _, _, _, h => by simp [scan] at h
  | k + 1, s, i, g, e, fe, h => by
    rcases scan_inv h with ⟨rfl, _, hn⟩ | ⟨_, _, _, h'⟩
    · exact ⟨Nat.le_refl _, hn⟩
    · have := scan_ge k s _ _ e fe h'
      exact ⟨by omega, this.2⟩

/-- What is known of a class that is one. -/
theorem classR_some {s : ByteArray} {f : Nat → Bool} {n : Nat} (hs : 1 ≤ s.size) (h : classR s = some (f, n)) :
    ∃ e fe, scan (s.size + 1) s (classBegin s) (fun _ => false) = some (e, fe) ∧ n = e + 1 ∧ classBegin s < e ∧ e < s.size ∧ byteAt s e = 93 ∧ f = upd (if notB s = true then fun i => !fe i else fe) 47 false := by
  unfold classR at h
  cases hsc : scan (s.size + 1) s (classBegin s) fun _ => false with
  | none => simp [hsc, classFin] at h
  | some y =>
    obtain ⟨e, fe⟩ := y
    have hb : classBegin s ≤ s.size := by
      unfold classBegin notB
      split
      · rename_i hh; simp at hh; omega
      · omega
    have h1 := scan_le _ _ _ _ _ _ hb hsc
    have h2 := scan_ge _ _ _ _ _ _ hsc
    simp only [hsc, classFin] at h
    split at h
    · simp at h
    · rename_i hne
      simp only [Option.some.injEq, Prod.mk.injEq] at h
      have hlt : e < s.size := by omega
      refine ⟨e, fe, rfl, h.2.symm, by omega, hlt, ?_, h.1.symm⟩
      exact Decidable.byContradiction fun h93 => h2.2 ⟨hlt, h93⟩

/-- A member's length, told by the byte behind it. -/
theorem memberAt_dash {s : ByteArray} {i : Nat} (h : memberAt s i ≠ 0) (hlt : i + 1 < s.size) : (byteAt s (i + 1) = 45 ∧ memberAt s i = 3 ∧ i + 2 < s.size) ∨ (byteAt s (i + 1) ≠ 45 ∧ memberAt s i = 1) := by
  unfold memberAt memberN at h ⊢
  by_cases h45 : byteAt s (i + 1) = 45
  · left
    by_cases a : nameB (byteAt s i) = true <;> by_cases b : s.size - i < 2 <;> by_cases c : s.size - i < 3 <;> by_cases d : nameB (byteAt s (i + 2)) = true <;> by_cases e : byteAt s (i + 2) < byteAt s i <;> simp [a, b, c, d, e, h45] at h ⊢ <;> omega
  · right
    by_cases a : nameB (byteAt s i) = true <;> by_cases b : s.size - i < 2 <;> simp [a, b, h45] at h ⊢ <;> omega

set_option maxRecDepth 10000 in
set_option maxHeartbeats 1000000 in
theorem single_class_no (q s : ByteArray) (c e : Nat) (fe : Nat → Bool) (_hc : c < 256) (hz : s.size ≤ 1000) (hq : q.size = e + 1) (hqb : ∀ i, i ≤ e → byteAt q i = byteAt s i) (h0 : byteAt s 0 = 91)
    (hsc : scan (s.size + 1) s 1 (fun _ => false) = some (e, fe)) (hB : 1 < e) (he : e < s.size) (h93 : byteAt s e = 93) (hn : ((byteAt q 1 : Int) == 33) = false) (w : World) :
    Calls Try.prog 21 #[.string q, .int .u8 c] w fun r w' => r = .returned (.bool ((fe c != false) && c != 47)) ∧ w' = w := by
  have z0 : byteAt q 0 = 91 := (hqb 0 (by omega)).trans h0
  have c63 : ((byteAt q 0 : Int) == 63) = false := by rw [beq_eq_false_iff_ne]; omega
  have c92 : ((byteAt q 0 : Int) == 92) = false := by rw [beq_eq_false_iff_ne]; omega
  have c91 : ((byteAt q 0 : Int) == 91) = true := by rw [beq_iff_eq]; omega
  have Hqb := hide hqb
  have Hsc0 := hide hsc
  have Hq := hide hq
  have hqs : q.size ≤ 1000 := by omega
  have hqe : e < q.size := by omega
  clear hqb hsc z0 h0 hq
  have e0 := byteAt_eq q 0 (by omega)
  have e1 := byteAt_eq q 1 (by omega)
  go_enter Try.func21, Try.ntmps21
  go_wp2_with fail
  go_loop [5, 6] (fun v i => ∃ (k fuel : Nat) (g : Nat → Bool), 1 ≤ k ∧ k ≤ e ∧ i = .int .i64 k ∧ v = .bool (g c) ∧ scan (fuel + 1) s k g = some (e, fe)) (fun _ i => e - (intOf i).toNat)
  case atStart => exact ⟨1, s.size, _, by omega, by omega, rfl, rfl, Hsc0.out⟩
  case round =>
    obtain ⟨k, fu, g, hk1, hk2, rfl, rfl, hsc⟩ := hrel
    have ek := byteAt_eq q k (by omega)
    have Hk := hide (Hqb.out k hk2)
    rcases scan_inv hsc with ⟨rfl, rfl, _⟩ | ⟨hlt, hne, hm, hsc'⟩
    · have bk : (((byteAt q k : Nat) : Int) != 93) = false := by rw [bne_eq_false_iff_eq, Hk.out]; omega
      clear hsc
      cases hg : g c
      all_goals
        go_wp2_with fail
        all_goals
          go_ret
          exact ⟨ret_bool (by first | rfl | (rw [Bool.eq_iff_iff]; simp; try omega)), rfl⟩
    · have bk : (((byteAt q k : Nat) : Int) != 93) = true := by rw [bne_iff_ne, Hk.out]; omega
      have hge := scan_ge _ _ _ _ _ _ hsc'
      have hpos : 1 ≤ memberAt s k := by omega
      have hk1' : k + 1 < q.size := by omega
      have ek1 := byteAt_eq q (k + 1) hk1'
      have Hk1 := hide (Hqb.out (k + 1) (by omega))
      have hfu : ∃ f2, fu = f2 + 1 := by
        cases fu with
        | zero => simp [scan] at hsc'
        | succ f2 => exact ⟨f2, rfl⟩
      obtain ⟨f2, rfl⟩ := hfu
      rcases memberAt_dash hm (by omega) with ⟨h45, hm3, h2⟩ | ⟨h45, hm1⟩
      · rw [hm3] at hsc' hge
        have b45 : (((byteAt q (k + 1) : Nat) : Int) == 45) = true := by rw [beq_iff_eq, Hk1.out]; omega
        have ek2 := byteAt_eq q (k + 2) (by omega)
        have Hk2 := hide (Hqb.out (k + 2) (by omega))
        have HS := hide hsc'
        clear hsc hsc' hm hm3 h45 hne
        have fin : ∀ b : Bool, b = (g c || (decide (byteAt q k ≤ c) && decide (c ≤ byteAt q (k + 2)))) → Value.bool b = Value.bool (addRange g (byteAt s k) (byteAt s (k + 3 - 1)) c) := by
          intro b hb
          rw [hb, Hk.out, Hk2.out]
          rfl
        have Hfin := hide fin
        clear fin
        cases hg : g c
        · by_cases hlo : byteAt q k ≤ c
          · by_cases hhi : c ≤ byteAt q (k + 2)
            · go_wp2_with fail
              go_round
              case rel => exact ⟨k + 3, f2, _, by omega, by omega, by go_num, Hfin.out _ (by rw [hg]; simp [hlo, hhi]), HS.out⟩
              case measure => simp [intOf]; omega
            · go_wp2_with fail
              go_round
              case rel => exact ⟨k + 3, f2, _, by omega, by omega, by go_num, Hfin.out _ (by rw [hg]; simp [hlo]; try omega), HS.out⟩
              case measure => simp [intOf]; omega
          · go_wp2_with fail
            go_round
            case rel => exact ⟨k + 3, f2, _, by omega, by omega, by go_num, Hfin.out _ (by rw [hg]; simp; try omega), HS.out⟩
            case measure => simp [intOf]; omega
        · go_wp2_with fail
          go_round
          case rel => exact ⟨k + 3, f2, _, by omega, by omega, by go_num, Hfin.out _ (by rw [hg]; simp), HS.out⟩
          case measure => simp [intOf]; omega
      · rw [hm1] at hsc' hge
        have b45 : (((byteAt q (k + 1) : Nat) : Int) == 45) = false := by rw [beq_eq_false_iff_ne, Hk1.out]; omega
        have HS := hide hsc'
        clear hsc hsc' hm hm1 h45 hne
        have fin : ∀ b : Bool, b = (g c || (decide (byteAt q k ≤ c) && decide (c ≤ byteAt q k))) → Value.bool b = Value.bool (addRange g (byteAt s k) (byteAt s (k + 1 - 1)) c) := by
          intro b hb
          rw [hb, Hk.out]
          rfl
        have Hfin := hide fin
        clear fin
        cases hg : g c
        · by_cases hlo : byteAt q k ≤ c
          · by_cases hhi : c ≤ byteAt q k
            · go_wp2_with fail
              go_round
              case rel => exact ⟨k + 1, f2, _, by omega, by omega, by go_num, Hfin.out _ (by rw [hg]; simp [hlo, hhi]), HS.out⟩
              case measure => simp [intOf]; omega
            · go_wp2_with fail
              go_round
              case rel => exact ⟨k + 1, f2, _, by omega, by omega, by go_num, Hfin.out _ (by rw [hg]; simp [hlo]; try omega), HS.out⟩
              case measure => simp [intOf]; omega
          · go_wp2_with fail
            go_round
            case rel => exact ⟨k + 1, f2, _, by omega, by omega, by go_num, Hfin.out _ (by rw [hg]; simp; try omega), HS.out⟩
            case measure => simp [intOf]; omega
        · go_wp2_with fail
          go_round
          case rel => exact ⟨k + 1, f2, _, by omega, by omega, by go_num, Hfin.out _ (by rw [hg]; simp), HS.out⟩
          case measure => simp [intOf]; omega

set_option maxRecDepth 10000 in
set_option maxHeartbeats 1000000 in
theorem single_class_yes (q s : ByteArray) (c e : Nat) (fe : Nat → Bool) (_hc : c < 256) (hz : s.size ≤ 1000) (hq : q.size = e + 1) (hqb : ∀ i, i ≤ e → byteAt q i = byteAt s i) (h0 : byteAt s 0 = 91)
    (hsc : scan (s.size + 1) s 2 (fun _ => false) = some (e, fe)) (hB : 2 < e) (he : e < s.size) (h93 : byteAt s e = 93) (hn : ((byteAt q 1 : Int) == 33) = true) (w : World) :
    Calls Try.prog 21 #[.string q, .int .u8 c] w fun r w' => r = .returned (.bool ((fe c != true) && c != 47)) ∧ w' = w := by
  have z0 : byteAt q 0 = 91 := (hqb 0 (by omega)).trans h0
  have c63 : ((byteAt q 0 : Int) == 63) = false := by rw [beq_eq_false_iff_ne]; omega
  have c92 : ((byteAt q 0 : Int) == 92) = false := by rw [beq_eq_false_iff_ne]; omega
  have c91 : ((byteAt q 0 : Int) == 91) = true := by rw [beq_iff_eq]; omega
  have Hqb := hide hqb
  have Hsc0 := hide hsc
  have Hq := hide hq
  have hqs : q.size ≤ 1000 := by omega
  have hqe : e < q.size := by omega
  clear hqb hsc z0 h0 hq
  have e0 := byteAt_eq q 0 (by omega)
  have e1 := byteAt_eq q 1 (by omega)
  go_enter Try.func21, Try.ntmps21
  go_wp2_with fail
  go_loop [5, 6] (fun v i => ∃ (k fuel : Nat) (g : Nat → Bool), 2 ≤ k ∧ k ≤ e ∧ i = .int .i64 k ∧ v = .bool (g c) ∧ scan (fuel + 1) s k g = some (e, fe)) (fun _ i => e - (intOf i).toNat)
  case atStart => exact ⟨2, s.size, _, by omega, by omega, rfl, rfl, Hsc0.out⟩
  case round =>
    obtain ⟨k, fu, g, hk1, hk2, rfl, rfl, hsc⟩ := hrel
    have ek := byteAt_eq q k (by omega)
    have Hk := hide (Hqb.out k hk2)
    rcases scan_inv hsc with ⟨rfl, rfl, _⟩ | ⟨hlt, hne, hm, hsc'⟩
    · have bk : (((byteAt q k : Nat) : Int) != 93) = false := by rw [bne_eq_false_iff_eq, Hk.out]; omega
      clear hsc
      cases hg : g c
      all_goals
        go_wp2_with fail
        all_goals
          go_ret
          exact ⟨ret_bool (by first | rfl | (rw [Bool.eq_iff_iff]; simp; try omega)), rfl⟩
    · have bk : (((byteAt q k : Nat) : Int) != 93) = true := by rw [bne_iff_ne, Hk.out]; omega
      have hge := scan_ge _ _ _ _ _ _ hsc'
      have hpos : 1 ≤ memberAt s k := by omega
      have hk1' : k + 1 < q.size := by omega
      have ek1 := byteAt_eq q (k + 1) hk1'
      have Hk1 := hide (Hqb.out (k + 1) (by omega))
      have hfu : ∃ f2, fu = f2 + 1 := by
        cases fu with
        | zero => simp [scan] at hsc'
        | succ f2 => exact ⟨f2, rfl⟩
      obtain ⟨f2, rfl⟩ := hfu
      rcases memberAt_dash hm (by omega) with ⟨h45, hm3, h2⟩ | ⟨h45, hm1⟩
      · rw [hm3] at hsc' hge
        have b45 : (((byteAt q (k + 1) : Nat) : Int) == 45) = true := by rw [beq_iff_eq, Hk1.out]; omega
        have ek2 := byteAt_eq q (k + 2) (by omega)
        have Hk2 := hide (Hqb.out (k + 2) (by omega))
        have HS := hide hsc'
        clear hsc hsc' hm hm3 h45 hne
        have fin : ∀ b : Bool, b = (g c || (decide (byteAt q k ≤ c) && decide (c ≤ byteAt q (k + 2)))) → Value.bool b = Value.bool (addRange g (byteAt s k) (byteAt s (k + 3 - 1)) c) := by
          intro b hb
          rw [hb, Hk.out, Hk2.out]
          rfl
        have Hfin := hide fin
        clear fin
        cases hg : g c
        · by_cases hlo : byteAt q k ≤ c
          · by_cases hhi : c ≤ byteAt q (k + 2)
            · go_wp2_with fail
              go_round
              case rel => exact ⟨k + 3, f2, _, by omega, by omega, by go_num, Hfin.out _ (by rw [hg]; simp [hlo, hhi]), HS.out⟩
              case measure => simp [intOf]; omega
            · go_wp2_with fail
              go_round
              case rel => exact ⟨k + 3, f2, _, by omega, by omega, by go_num, Hfin.out _ (by rw [hg]; simp [hlo]; try omega), HS.out⟩
              case measure => simp [intOf]; omega
          · go_wp2_with fail
            go_round
            case rel => exact ⟨k + 3, f2, _, by omega, by omega, by go_num, Hfin.out _ (by rw [hg]; simp; try omega), HS.out⟩
            case measure => simp [intOf]; omega
        · go_wp2_with fail
          go_round
          case rel => exact ⟨k + 3, f2, _, by omega, by omega, by go_num, Hfin.out _ (by rw [hg]; simp), HS.out⟩
          case measure => simp [intOf]; omega
      · rw [hm1] at hsc' hge
        have b45 : (((byteAt q (k + 1) : Nat) : Int) == 45) = false := by rw [beq_eq_false_iff_ne, Hk1.out]; omega
        have HS := hide hsc'
        clear hsc hsc' hm hm1 h45 hne
        have fin : ∀ b : Bool, b = (g c || (decide (byteAt q k ≤ c) && decide (c ≤ byteAt q k))) → Value.bool b = Value.bool (addRange g (byteAt s k) (byteAt s (k + 1 - 1)) c) := by
          intro b hb
          rw [hb, Hk.out]
          rfl
        have Hfin := hide fin
        clear fin
        cases hg : g c
        · by_cases hlo : byteAt q k ≤ c
          · by_cases hhi : c ≤ byteAt q k
            · go_wp2_with fail
              go_round
              case rel => exact ⟨k + 1, f2, _, by omega, by omega, by go_num, Hfin.out _ (by rw [hg]; simp [hlo, hhi]), HS.out⟩
              case measure => simp [intOf]; omega
            · go_wp2_with fail
              go_round
              case rel => exact ⟨k + 1, f2, _, by omega, by omega, by go_num, Hfin.out _ (by rw [hg]; simp [hlo]; try omega), HS.out⟩
              case measure => simp [intOf]; omega
          · go_wp2_with fail
            go_round
            case rel => exact ⟨k + 1, f2, _, by omega, by omega, by go_num, Hfin.out _ (by rw [hg]; simp; try omega), HS.out⟩
            case measure => simp [intOf]; omega
        · go_wp2_with fail
          go_round
          case rel => exact ⟨k + 1, f2, _, by omega, by omega, by go_num, Hfin.out _ (by rw [hg]; simp), HS.out⟩
          case measure => simp [intOf]; omega

theorem upd_47 (g : Nat → Bool) (c : Nat) : upd g 47 false c = (g c && c != 47) := by
  unfold upd
  by_cases h : c = 47
  · simp [h]
  · simp [h]

/-- 'single' at a piece of a pattern: the bytes that the part is like. -/
theorem single_any (s q : ByteArray) (c n : Nat) (f : Nat → Bool) (hc : c < 256) (hs : 1 ≤ s.size) (hz : s.size ≤ 1000) (hf : firstR s = some (f, false, n)) (hq : q = s.extract 0 n) (w : World) :
    Calls Try.prog 21 #[.string q, .int .u8 c] w fun r w' => r = .returned (.bool (f c)) ∧ w' = w := by
  have hb := firstR_bound hs hf
  have hqs : q.size = n := by rw [hq]; simp; omega
  have hqb : ∀ i, i < n → byteAt q i = byteAt s i := fun i hi => by
    rw [hq]
    unfold byteAt
    rw [Lib.extract_data]
    simp [List.getD_eq_getElem?_getD, hi]
  clear hq
  have z0 := hqb 0 (by omega)
  unfold firstR at hf
  split at hf
  · simp at hf
  · split at hf
    · simp at hf
    · split at hf
      · rename_i h63
        simp only [Option.some.injEq, Prod.mk.injEq] at hf
        obtain ⟨rfl, _, rfl⟩ := hf
        have c63 : ((byteAt q 0 : Int) == 63) = true := by rw [beq_iff_eq]; omega
        have e0 := byteAt_eq q 0 (by omega)
        clear hqb z0 h63
        go_enter Try.func21, Try.ntmps21
        go_wp2_with fail
        go_ret
        exact ⟨ret_bool (by rw [Bool.eq_iff_iff]; simp [notF, onlyF, upd]; omega), rfl⟩
      · split at hf
        · rename_i h91
          unfold classP at hf
          cases hcl : classR s with
          | none => rw [hcl] at hf; simp at hf
          | some x =>
            obtain ⟨g, k⟩ := x
            rw [hcl] at hf
            simp only [Option.map_some, Option.some.injEq, Prod.mk.injEq] at hf
            obtain ⟨rfl, _, rfl⟩ := hf
            obtain ⟨e, fe, hsc, rfl, hB, he, h93, rfl⟩ := classR_some hs hcl
            have z1 := hqb 1 (by unfold classBegin at hB; split at hB <;> omega)
            rw [upd_47]
            cases hn : notB s
            · have hB1 : classBegin s = 1 := by unfold classBegin; rw [hn]; rfl
              rw [hB1] at hsc hB
              have hn33 : ((byteAt q 1 : Int) == 33) = false := by
                unfold notB at hn
                rw [beq_eq_false_iff_ne, z1]
                intro h
                rw [show byteAt s 1 = 33 by omega] at hn
                simp at hn
                omega
              refine (single_class_no q s c e fe hc hz hqs (fun i hi => hqb i (by omega)) h91 hsc hB he h93 hn33 w).mono fun r w' ⟨hr, hw⟩ => ⟨?_, hw⟩
              rw [hr]
              exact ret_bool (by simp)
            · have hB1 : classBegin s = 2 := by unfold classBegin; rw [hn]; rfl
              rw [hB1] at hsc hB
              have hn33 : ((byteAt q 1 : Int) == 33) = true := by
                unfold notB at hn
                simp at hn
                rw [beq_iff_eq, z1]
                omega
              refine (single_class_yes q s c e fe hc hz hqs (fun i hi => hqb i (by omega)) h91 hsc hB he h93 hn33 w).mono fun r w' ⟨hr, hw⟩ => ⟨?_, hw⟩
              rw [hr]
              exact ret_bool (by simp)
        · split at hf
          · rename_i h92
            unfold escR at hf
            split at hf
            · rename_i h2
              simp only [Option.some.injEq, Prod.mk.injEq] at hf
              obtain ⟨rfl, _, rfl⟩ := hf
              have z1 := hqb 1 (by omega)
              have c63 : ((byteAt q 0 : Int) == 63) = false := by rw [beq_eq_false_iff_ne]; omega
              have c92 : ((byteAt q 0 : Int) == 92) = true := by rw [beq_iff_eq]; omega
              have hq1 : 1 < q.size := by omega
              have hq0 : 0 < q.size := by omega
              have e0 := byteAt_eq q 0 hq0
              have e1 := byteAt_eq q 1 hq1
              have Z1 := hide z1
              clear hqb z0 z1 h92 h2 hqs
              go_enter Try.func21, Try.ntmps21
              go_wp2_with fail
              go_ret
              exact ⟨ret_bool (by rw [← Z1.out, Bool.eq_iff_iff]; simp [onlyF, upd]; omega), rfl⟩
            · simp at hf
          · split at hf
            · rename_i h42 h63 h91 h92 hp
              simp only [Option.some.injEq, Prod.mk.injEq] at hf
              obtain ⟨rfl, _, rfl⟩ := hf
              have c63 : ((byteAt q 0 : Int) == 63) = false := by rw [beq_eq_false_iff_ne]; omega
              have c92 : ((byteAt q 0 : Int) == 92) = false := by rw [beq_eq_false_iff_ne]; omega
              have c91 : ((byteAt q 0 : Int) == 91) = false := by rw [beq_eq_false_iff_ne]; omega
              have hq0 : 0 < q.size := by omega
              have e0 := byteAt_eq q 0 hq0
              have Z0 := hide z0
              clear hqb z0 h42 h63 h91 h92 hp hqs
              go_enter Try.func21, Try.ntmps21
              go_wp2_with fail
              go_ret
              exact ⟨ret_bool (by rw [← Z0.out, Bool.eq_iff_iff]; simp [onlyF, upd]; omega), rfl⟩
            · simp at hf
end Go.Proofs.Ytaipgmnifnclbaa
