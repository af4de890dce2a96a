/- The walk of the document's single. -/
import Derived.Test.YtklibmijiecbfaaGreatK22
namespace Go.Proofs.YtklibmijiecbfaaGreat.Gl
open Go.RowKit

theorem scan_inv {fu : Nat} {s : ByteArray} {i e : Nat} {g fe : Nat → Bool} (h : scan (fu + 1) s i g = some (e, fe)) :
  (i = e ∧ g = fe ∧ ¬ (i < s.size ∧ byteAt s i ≠ 93)) ∨ (i < s.size ∧ byteAt s i ≠ 93 ∧ memberAt s i ≠ 0 ∧ scan fu s (i + memberAt s i) (addRange g (byteAt s i) (byteAt s (i + memberAt s i - 1))) = some (e, fe)) := by
 rw [scan] at h
 split at h
 ·
  rename_i hc
  split at h
  ·
   simp at h
  ·
   rename_i hm
   exact .inr ⟨hc.1, hc.2, hm, h⟩
 ·
  rename_i hc
  simp only [Option.some.injEq, Prod.mk.injEq] at h
  exact .inl ⟨h.1, h.2, hc⟩
theorem scan_ge : ∀ (k : Nat) (s : ByteArray) (i : Nat) (g : Nat → Bool) (e : Nat) (fe : Nat → Bool), scan k s i g = some (e, fe) → i ≤ e ∧ ¬ (e < s.size ∧ byteAt s e ≠ 93)
 | 0, _, _, _, _, _, h => by simp [scan] at h
 | k + 1, s, i, g, e, fe, h => by
  rcases scan_inv h with ⟨rfl, _, hn⟩ | ⟨_, _, _, h'⟩
  ·
   exact ⟨Nat.le_refl _, hn⟩
  ·
   have := scan_ge k s _ _ e fe h'
   exact ⟨by omega, this.2⟩

theorem classR_some {s : ByteArray} {f : Nat → Bool} {n : Nat} (hs : 1 ≤ s.size) (h : classR s = some (f, n)) :
  ∃ e fe, scan (s.size + 1) s (classBegin s) (fun _ => false) = some (e, fe) ∧ n = e + 1 ∧ classBegin s < e ∧ e < s.size ∧ byteAt s e = 93 ∧ f = upd (if notB s = true then fun i => !fe i else fe) 47 false := by
 unfold classR at h
 cases hsc : scan (s.size + 1) s (classBegin s) fun _ => false with
 | none => simp [hsc, classFin] at h
 | some y =>
  obtain ⟨e, fe⟩ := y
  have hb : classBegin s ≤ s.size := by
   unfold classBegin notB
   split
   ·
    rename_i hh; simp at hh; omega
   ·
    omega
  have h1 := scan_le _ _ _ _ _ _ hb hsc
  have h2 := scan_ge _ _ _ _ _ _ hsc
  simp only [hsc, classFin] at h
  split at h
  ·
   simp at h
  ·
   rename_i hne
   simp only [Option.some.injEq, Prod.mk.injEq] at h
   have hlt : e < s.size := by omega
   refine ⟨e, fe, rfl, h.2.symm, by omega, hlt, ?_, h.1.symm⟩
   exact Decidable.byContradiction fun h93 => h2.2 ⟨hlt, h93⟩

theorem memberAt_dash {s : ByteArray} {i : Nat} (h : memberAt s i ≠ 0) (hlt : i + 1 < s.size) : (byteAt s (i + 1) = 45 ∧ memberAt s i = 3 ∧ i + 2 < s.size) ∨ (byteAt s (i + 1) ≠ 45 ∧ memberAt s i = 1) := by
 unfold memberAt memberN at h ⊢
 by_cases h45 : byteAt s (i + 1) = 45
 ·
  left
  by_cases a : nameB (byteAt s i) = true <;> by_cases b : s.size - i < 2 <;> by_cases c : s.size - i < 3 <;> by_cases d : nameB (byteAt s (i + 2)) = true <;> by_cases e : byteAt s (i + 2) < byteAt s i <;> simp [a, b, c, d, e, h45] at h ⊢ <;> omega
 ·
  right
  by_cases a : nameB (byteAt s i) = true <;> by_cases b : s.size - i < 2 <;> simp [a, b, h45] at h ⊢ <;> omega

set_option maxRecDepth 10000 in
set_option maxHeartbeats 1000000 in
theorem single_class_no (q s : ByteArray) (c e : Nat) (fe : Nat → Bool) (_hc : c < 256) (hz : s.size ≤ 1000) (hq : q.size = e + 1) (hqb : ∀ i, i ≤ e → byteAt q i = byteAt s i) (h0 : byteAt s 0 = 91)
  (hsc : scan (s.size + 1) s 1 (fun _ => false) = some (e, fe)) (hB : 1 < e) (he : e < s.size) (h93 : byteAt s e = 93) (hn : ((byteAt q 1 : Int) == 33) = false) (w : World) :
  Calls Tryz.prog 129 #[.string q, .int .u8 c] w fun r w' => r = .returned (.bool ((fe c != false) && c != 47)) ∧ w' = w := by
 have z0 : byteAt q 0 = 91 := (hqb 0 (by omega)).trans h0
 have c63 : ((byteAt q 0 : Int) == 63) = false := by rw [beq_eq_false_iff_ne]; omega
 have c92 : ((byteAt q 0 : Int) == 92) = false := by rw [beq_eq_false_iff_ne]; omega
 have c91 : ((byteAt q 0 : Int) == 91) = true := by rw [beq_iff_eq]; omega
 have Hqb := hide hqb
 have Hsc0 := hide hsc
 have Hq := hide hq
 have hqs : q.size ≤ 1000 := by omega
 have hqe : e < q.size := by omega
 clear hqb hsc z0 h0 hq
 have e0 := byteAt_eq q 0 (by omega)
 have e1 := byteAt_eq q 1 (by omega)
 go_enter Tryz.func129, Tryz.ntmps129
 go_wp2_with fail
 go_loop [5, 6] (fun v i => ∃ (k fuel : Nat) (g : Nat → Bool), 1 ≤ k ∧ k ≤ e ∧ i = .int .i64 k ∧ v = .bool (g c) ∧ scan (fuel + 1) s k g = some (e, fe)) (fun _ i => e - (intOf i).toNat)
 case atStart => exact ⟨1, s.size, _, by omega, by omega, rfl, rfl, Hsc0.out⟩
 case round =>
  obtain ⟨k, fu, g, hk1, hk2, rfl, rfl, hsc⟩ := hrel
  have ek := byteAt_eq q k (by omega)
  have Hk := hide (Hqb.out k hk2)
  rcases scan_inv hsc with ⟨rfl, rfl, _⟩ | ⟨hlt, hne, hm, hsc'⟩
  ·
   have bk : (((byteAt q k : Nat) : Int) != 93) = false := by rw [bne_eq_false_iff_eq, Hk.out]; omega
   clear hsc
   cases hg : g c
   all_goals
    go_wp2_with fail
    all_goals
     go_ret
     exact ⟨ret_bool (by first | rfl | (rw [Bool.eq_iff_iff]; simp; try omega)), rfl⟩
  ·
   have bk : (((byteAt q k : Nat) : Int) != 93) = true := by rw [bne_iff_ne, Hk.out]; omega
   have hge := scan_ge _ _ _ _ _ _ hsc'
   have hpos : 1 ≤ memberAt s k := by omega
   have hk1' : k + 1 < q.size := by omega
   have ek1 := byteAt_eq q (k + 1) hk1'
   have Hk1 := hide (Hqb.out (k + 1) (by omega))
   have hfu : ∃ f2, fu = f2 + 1 := by
    cases fu with
    | zero => simp [scan] at hsc'
    | succ f2 => exact ⟨f2, rfl⟩
   obtain ⟨f2, rfl⟩ := hfu
   rcases memberAt_dash hm (by omega) with ⟨h45, hm3, h2⟩ | ⟨h45, hm1⟩
   ·
    rw [hm3] at hsc' hge
    have b45 : (((byteAt q (k + 1) : Nat) : Int) == 45) = true := by rw [beq_iff_eq, Hk1.out]; omega
    have ek2 := byteAt_eq q (k + 2) (by omega)
    have Hk2 := hide (Hqb.out (k + 2) (by omega))
    have HS := hide hsc'
    clear hsc hsc' hm hm3 h45 hne
    have fin : ∀ b : Bool, b = (g c || (decide (byteAt q k ≤ c) && decide (c ≤ byteAt q (k + 2)))) → Value.bool b = Value.bool (addRange g (byteAt s k) (byteAt s (k + 3 - 1)) c) := by
     intro b hb
     rw [hb, Hk.out, Hk2.out]
     rfl
    have Hfin := hide fin
    clear fin
    cases hg : g c
    ·
     by_cases hlo : byteAt q k ≤ c
     ·
      by_cases hhi : c ≤ byteAt q (k + 2)
      ·
       go_wp2_with fail
       go_round
       case rel => exact ⟨k + 3, f2, _, by omega, by omega, by go_num, Hfin.out _ (by rw [hg]; simp [hlo, hhi]), HS.out⟩
       case measure => simp [intOf]; omega
      ·
       go_wp2_with fail
       go_round
       case rel => exact ⟨k + 3, f2, _, by omega, by omega, by go_num, Hfin.out _ (by rw [hg]; simp [hlo]; try omega), HS.out⟩
       case measure => simp [intOf]; omega
     ·
      go_wp2_with fail
      go_round
      case rel => exact ⟨k + 3, f2, _, by omega, by omega, by go_num, Hfin.out _ (by rw [hg]; simp; try omega), HS.out⟩
      case measure => simp [intOf]; omega
    ·
     go_wp2_with fail
     go_round
     case rel => exact ⟨k + 3, f2, _, by omega, by omega, by go_num, Hfin.out _ (by rw [hg]; simp), HS.out⟩
     case measure => simp [intOf]; omega
   ·
    rw [hm1] at hsc' hge
    have b45 : (((byteAt q (k + 1) : Nat) : Int) == 45) = false := by rw [beq_eq_false_iff_ne, Hk1.out]; omega
    have HS := hide hsc'
    clear hsc hsc' hm hm1 h45 hne
    have fin : ∀ b : Bool, b = (g c || (decide (byteAt q k ≤ c) && decide (c ≤ byteAt q k))) → Value.bool b = Value.bool (addRange g (byteAt s k) (byteAt s (k + 1 - 1)) c) := by
     intro b hb
     rw [hb, Hk.out]
     rfl
    have Hfin := hide fin
    clear fin
    cases hg : g c
    ·
     by_cases hlo : byteAt q k ≤ c
     ·
      by_cases hhi : c ≤ byteAt q k
      ·
       go_wp2_with fail
       go_round
       case rel => exact ⟨k + 1, f2, _, by omega, by omega, by go_num, Hfin.out _ (by rw [hg]; simp [hlo, hhi]), HS.out⟩
       case measure => simp [intOf]; omega
      ·
       go_wp2_with fail
       go_round
       case rel => exact ⟨k + 1, f2, _, by omega, by omega, by go_num, Hfin.out _ (by rw [hg]; simp [hlo]; try omega), HS.out⟩
       case measure => simp [intOf]; omega
     ·
      go_wp2_with fail
      go_round
      case rel => exact ⟨k + 1, f2, _, by omega, by omega, by go_num, Hfin.out _ (by rw [hg]; simp; try omega), HS.out⟩
      case measure => simp [intOf]; omega
    ·
     go_wp2_with fail
     go_round
     case rel => exact ⟨k + 1, f2, _, by omega, by omega, by go_num, Hfin.out _ (by rw [hg]; simp), HS.out⟩
     case measure => simp [intOf]; omega

set_option maxRecDepth 10000 in
set_option maxHeartbeats 1000000 in
theorem single_class_yes (q s : ByteArray) (c e : Nat) (fe : Nat → Bool) (_hc : c < 256) (hz : s.size ≤ 1000) (hq : q.size = e + 1) (hqb : ∀ i, i ≤ e → byteAt q i = byteAt s i) (h0 : byteAt s 0 = 91)
  (hsc : scan (s.size + 1) s 2 (fun _ => false) = some (e, fe)) (hB : 2 < e) (he : e < s.size) (h93 : byteAt s e = 93) (hn : ((byteAt q 1 : Int) == 33) = true) (w : World) :
  Calls Tryz.prog 129 #[.string q, .int .u8 c] w fun r w' => r = .returned (.bool ((fe c != true) && c != 47)) ∧ w' = w := by
 have z0 : byteAt q 0 = 91 := (hqb 0 (by omega)).trans h0
 have c63 : ((byteAt q 0 : Int) == 63) = false := by rw [beq_eq_false_iff_ne]; omega
 have c92 : ((byteAt q 0 : Int) == 92) = false := by rw [beq_eq_false_iff_ne]; omega
 have c91 : ((byteAt q 0 : Int) == 91) = true := by rw [beq_iff_eq]; omega
 have Hqb := hide hqb
 have Hsc0 := hide hsc
 have Hq := hide hq
 have hqs : q.size ≤ 1000 := by omega
 have hqe : e < q.size := by omega
 clear hqb hsc z0 h0 hq
 have e0 := byteAt_eq q 0 (by omega)
 have e1 := byteAt_eq q 1 (by omega)
 go_enter Tryz.func129, Tryz.ntmps129
 go_wp2_with fail
 go_loop [5, 6] (fun v i => ∃ (k fuel : Nat) (g : Nat → Bool), 2 ≤ k ∧ k ≤ e ∧ i = .int .i64 k ∧ v = .bool (g c) ∧ scan (fuel + 1) s k g = some (e, fe)) (fun _ i => e - (intOf i).toNat)
 case atStart => exact ⟨2, s.size, _, by omega, by omega, rfl, rfl, Hsc0.out⟩
 case round =>
  obtain ⟨k, fu, g, hk1, hk2, rfl, rfl, hsc⟩ := hrel
  have ek := byteAt_eq q k (by omega)
  have Hk := hide (Hqb.out k hk2)
  rcases scan_inv hsc with ⟨rfl, rfl, _⟩ | ⟨hlt, hne, hm, hsc'⟩
  ·
   have bk : (((byteAt q k : Nat) : Int) != 93) = false := by rw [bne_eq_false_iff_eq, Hk.out]; omega
   clear hsc
   cases hg : g c
   all_goals
    go_wp2_with fail
    all_goals
     go_ret
     exact ⟨ret_bool (by first | rfl | (rw [Bool.eq_iff_iff]; simp; try omega)), rfl⟩
  ·
   have bk : (((byteAt q k : Nat) : Int) != 93) = true := by rw [bne_iff_ne, Hk.out]; omega
   have hge := scan_ge _ _ _ _ _ _ hsc'
   have hpos : 1 ≤ memberAt s k := by omega
   have hk1' : k + 1 < q.size := by omega
   have ek1 := byteAt_eq q (k + 1) hk1'
   have Hk1 := hide (Hqb.out (k + 1) (by omega))
   have hfu : ∃ f2, fu = f2 + 1 := by
    cases fu with
    | zero => simp [scan] at hsc'
    | succ f2 => exact ⟨f2, rfl⟩
   obtain ⟨f2, rfl⟩ := hfu
   rcases memberAt_dash hm (by omega) with ⟨h45, hm3, h2⟩ | ⟨h45, hm1⟩
   ·
    rw [hm3] at hsc' hge
    have b45 : (((byteAt q (k + 1) : Nat) : Int) == 45) = true := by rw [beq_iff_eq, Hk1.out]; omega
    have ek2 := byteAt_eq q (k + 2) (by omega)
    have Hk2 := hide (Hqb.out (k + 2) (by omega))
    have HS := hide hsc'
    clear hsc hsc' hm hm3 h45 hne
    have fin : ∀ b : Bool, b = (g c || (decide (byteAt q k ≤ c) && decide (c ≤ byteAt q (k + 2)))) → Value.bool b = Value.bool (addRange g (byteAt s k) (byteAt s (k + 3 - 1)) c) := by
     intro b hb
     rw [hb, Hk.out, Hk2.out]
     rfl
    have Hfin := hide fin
    clear fin
    cases hg : g c
    ·
     by_cases hlo : byteAt q k ≤ c
     ·
      by_cases hhi : c ≤ byteAt q (k + 2)
      ·
       go_wp2_with fail
       go_round
       case rel => exact ⟨k + 3, f2, _, by omega, by omega, by go_num, Hfin.out _ (by rw [hg]; simp [hlo, hhi]), HS.out⟩
       case measure => simp [intOf]; omega
      ·
       go_wp2_with fail
       go_round
       case rel => exact ⟨k + 3, f2, _, by omega, by omega, by go_num, Hfin.out _ (by rw [hg]; simp [hlo]; try omega), HS.out⟩
       case measure => simp [intOf]; omega
     ·
      go_wp2_with fail
      go_round
      case rel => exact ⟨k + 3, f2, _, by omega, by omega, by go_num, Hfin.out _ (by rw [hg]; simp; try omega), HS.out⟩
      case measure => simp [intOf]; omega
    ·
     go_wp2_with fail
     go_round
     case rel => exact ⟨k + 3, f2, _, by omega, by omega, by go_num, Hfin.out _ (by rw [hg]; simp), HS.out⟩
     case measure => simp [intOf]; omega
   ·
    rw [hm1] at hsc' hge
    have b45 : (((byteAt q (k + 1) : Nat) : Int) == 45) = false := by rw [beq_eq_false_iff_ne, Hk1.out]; omega
    have HS := hide hsc'
    clear hsc hsc' hm hm1 h45 hne
    have fin : ∀ b : Bool, b = (g c || (decide (byteAt q k ≤ c) && decide (c ≤ byteAt q k))) → Value.bool b = Value.bool (addRange g (byteAt s k) (byteAt s (k + 1 - 1)) c) := by
     intro b hb
     rw [hb, Hk.out]
     rfl
    have Hfin := hide fin
    clear fin
    cases hg : g c
    ·
     by_cases hlo : byteAt q k ≤ c
     ·
      by_cases hhi : c ≤ byteAt q k
      ·
       go_wp2_with fail
       go_round
       case rel => exact ⟨k + 1, f2, _, by omega, by omega, by go_num, Hfin.out _ (by rw [hg]; simp [hlo, hhi]), HS.out⟩
       case measure => simp [intOf]; omega
      ·
       go_wp2_with fail
       go_round
       case rel => exact ⟨k + 1, f2, _, by omega, by omega, by go_num, Hfin.out _ (by rw [hg]; simp [hlo]; try omega), HS.out⟩
       case measure => simp [intOf]; omega
     ·
      go_wp2_with fail
      go_round
      case rel => exact ⟨k + 1, f2, _, by omega, by omega, by go_num, Hfin.out _ (by rw [hg]; simp; try omega), HS.out⟩
      case measure => simp [intOf]; omega
    ·
     go_wp2_with fail
     go_round
     case rel => exact ⟨k + 1, f2, _, by omega, by omega, by go_num, Hfin.out _ (by rw [hg]; simp), HS.out⟩
     case measure => simp [intOf]; omega

theorem upd_47 (g : Nat → Bool) (c : Nat) : upd g 47 false c = (g c && c != 47) := by
 unfold upd
 by_cases h : c = 47
 ·
  simp [h]
 ·
  simp [h]

theorem single_any (s q : ByteArray) (c n : Nat) (f : Nat → Bool) (hc : c < 256) (hs : 1 ≤ s.size) (hz : s.size ≤ 1000) (hf : firstR s = some (f, false, n)) (hq : q = s.extract 0 n) (w : World) :
  Calls Tryz.prog 129 #[.string q, .int .u8 c] w fun r w' => r = .returned (.bool (f c)) ∧ w' = w := by
 have hb := firstR_bound hs hf
 have hqs : q.size = n := by rw [hq]; simp; omega
 have hqb : ∀ i, i < n → byteAt q i = byteAt s i := fun i hi => by
  rw [hq]
  unfold byteAt
  rw [Lib.extract_data]
  simp [List.getD_eq_getElem?_getD, hi]
 clear hq
 have z0 := hqb 0 (by omega)
 unfold firstR at hf
 split at hf
 ·
  simp at hf
 ·
  split at hf
  ·
   simp at hf
  ·
   split at hf
   ·
    rename_i h63
    simp only [Option.some.injEq, Prod.mk.injEq] at hf
    obtain ⟨rfl, _, rfl⟩ := hf
    have c63 : ((byteAt q 0 : Int) == 63) = true := by rw [beq_iff_eq]; omega
    have e0 := byteAt_eq q 0 (by omega)
    clear hqb z0 h63
    go_enter Tryz.func129, Tryz.ntmps129
    go_wp2_with fail
    go_ret
    exact ⟨ret_bool (by rw [Bool.eq_iff_iff]; simp [notF, onlyF, upd]; omega), rfl⟩
   ·
    split at hf
    ·
     rename_i h91
     unfold classP at hf
     cases hcl : classR s with
     | none => rw [hcl] at hf; simp at hf
     | some x =>
      obtain ⟨g, k⟩ := x
      rw [hcl] at hf
      simp only [Option.map_some, Option.some.injEq, Prod.mk.injEq] at hf
      obtain ⟨rfl, _, rfl⟩ := hf
      obtain ⟨e, fe, hsc, rfl, hB, he, h93, rfl⟩ := classR_some hs hcl
      have z1 := hqb 1 (by unfold classBegin at hB; split at hB <;> omega)
      rw [upd_47]
      cases hn : notB s
      ·
       have hB1 : classBegin s = 1 := by unfold classBegin; rw [hn]; rfl
       rw [hB1] at hsc hB
       have hn33 : ((byteAt q 1 : Int) == 33) = false := by
        unfold notB at hn
        rw [beq_eq_false_iff_ne, z1]
        intro h
        rw [show byteAt s 1 = 33 by omega] at hn
        simp at hn
        omega
       refine (single_class_no q s c e fe hc hz hqs (fun i hi => hqb i (by omega)) h91 hsc hB he h93 hn33 w).mono fun r w' ⟨hr, hw⟩ => ⟨?_, hw⟩
       rw [hr]
       exact ret_bool (by simp)
      ·
       have hB1 : classBegin s = 2 := by unfold classBegin; rw [hn]; rfl
       rw [hB1] at hsc hB
       have hn33 : ((byteAt q 1 : Int) == 33) = true := by
        unfold notB at hn
        simp at hn
        rw [beq_iff_eq, z1]
        omega
       refine (single_class_yes q s c e fe hc hz hqs (fun i hi => hqb i (by omega)) h91 hsc hB he h93 hn33 w).mono fun r w' ⟨hr, hw⟩ => ⟨?_, hw⟩
       rw [hr]
       exact ret_bool (by simp)
    ·
     split at hf
     ·
      rename_i h92
      unfold escR at hf
      split at hf
      ·
       rename_i h2
       simp only [Option.some.injEq, Prod.mk.injEq] at hf
       obtain ⟨rfl, _, rfl⟩ := hf
       have z1 := hqb 1 (by omega)
       have c63 : ((byteAt q 0 : Int) == 63) = false := by rw [beq_eq_false_iff_ne]; omega
       have c92 : ((byteAt q 0 : Int) == 92) = true := by rw [beq_iff_eq]; omega
       have hq1 : 1 < q.size := by omega
       have hq0 : 0 < q.size := by omega
       have e0 := byteAt_eq q 0 hq0
       have e1 := byteAt_eq q 1 hq1
       have Z1 := hide z1
       clear hqb z0 z1 h92 h2 hqs
       go_enter Tryz.func129, Tryz.ntmps129
       go_wp2_with fail
       go_ret
       exact ⟨ret_bool (by rw [← Z1.out, Bool.eq_iff_iff]; simp [onlyF, upd]; omega), rfl⟩
      ·
       simp at hf
     ·
      split at hf
      ·
       rename_i h42 h63 h91 h92 hp
       simp only [Option.some.injEq, Prod.mk.injEq] at hf
       obtain ⟨rfl, _, rfl⟩ := hf
       have c63 : ((byteAt q 0 : Int) == 63) = false := by rw [beq_eq_false_iff_ne]; omega
       have c92 : ((byteAt q 0 : Int) == 92) = false := by rw [beq_eq_false_iff_ne]; omega
       have c91 : ((byteAt q 0 : Int) == 91) = false := by rw [beq_eq_false_iff_ne]; omega
       have hq0 : 0 < q.size := by omega
       have e0 := byteAt_eq q 0 hq0
       have Z0 := hide z0
       clear hqb z0 h42 h63 h91 h92 hp hqs
       go_enter Tryz.func129, Tryz.ntmps129
       go_wp2_with fail
       go_ret
       exact ⟨ret_bool (by rw [← Z0.out, Bool.eq_iff_iff]; simp [onlyF, upd]; omega), rfl⟩
      ·
       simp at hf
end Go.Proofs.YtklibmijiecbfaaGreat.Gl

/- The walk of the document's Pieces. -/
namespace Go.Proofs.YtklibmijiecbfaaGreat.Gl
open Go.RowKit

def strsOf (p : ByteArray) (cs : List (Nat × Nat)) : List Value := cs.map fun c => .string (p.extract c.1 (c.1 + c.2))
theorem strsOf_snoc (p : ByteArray) (cs : List (Nat × Nat)) (c : Nat × Nat) : strsOf p (cs ++ [c]) = strsOf p cs ++ [.string (p.extract c.1 (c.1 + c.2))] := by simp [strsOf]

def Cut (p : ByteArray) (cs : List (Nat × Nat)) (ps : List Part) : Prop := cs.length = ps.length ∧ ∀ i, i < ps.length → (cs.getD i (0, 0)).1 < p.size ∧ firstR (p.extract (cs.getD i (0, 0)).1 p.size) = some (likeAt ps i, manyAt ps i, (cs.getD i (0, 0)).2)
theorem Cut.nil (p : ByteArray) : Cut p [] [] := ⟨rfl, fun i h => by simp at h⟩
theorem Cut.snoc {p : ByteArray} {cs : List (Nat × Nat)} {ps : List Part} (h : Cut p cs ps) {a n : Nat} {f : Nat → Bool} {m : Bool} (ha : a < p.size) (hf : firstR (p.extract a p.size) = some (f, m, n)) : Cut p (cs ++ [(a, n)]) (ps ++ [(f, m)]) := by
 refine ⟨by simp [h.1], fun i hi => ?_⟩
 have hl := h.1
 simp only [List.length_append, List.length_cons, List.length_nil] at hi
 by_cases hlt : i < ps.length
 ·
  have h1 : (cs ++ [(a, n)]).getD i (0, 0) = cs.getD i (0, 0) := by
   rw [List.getD_eq_getElem?_getD, List.getElem?_append_left (by omega), ← List.getD_eq_getElem?_getD]
  have h2 : (ps ++ [(f, m)]).getD i (fun _ => false, false) = ps.getD i (fun _ => false, false) := by
   rw [List.getD_eq_getElem?_getD, List.getElem?_append_left hlt, ← List.getD_eq_getElem?_getD]
  unfold likeAt manyAt
  rw [h1, h2]
  exact h.2 i hlt
 ·
  have e : i = ps.length := by omega
  subst e
  have h1 : (cs ++ [(a, n)]).getD ps.length (0, 0) = (a, n) := by
   rw [List.getD_eq_getElem?_getD, List.getElem?_append_right (by omega), hl]; simp
  have h2 : (ps ++ [(f, m)]).getD ps.length (fun _ => false, false) = (f, m) := by
   rw [List.getD_eq_getElem?_getD, List.getElem?_append_right (by omega)]; simp
  unfold likeAt manyAt
  rw [h1, h2]
  exact ⟨ha, hf⟩

theorem info_str : ∃ i, Tryz.prog.info? 9 = some i ∧ i.zero = some (.string .empty) ∧ i.size = 1 ∧ i.bytes = 16 := by
 have hz : (Tryz.prog.info? 9).map (·.zero) = some (some (.string .empty)) := by kernel_rfl
 have hs : (Tryz.prog.info? 9).map (·.size) = some 1 := by kernel_rfl
 have hb : (Tryz.prog.info? 9).map (·.bytes) = some 16 := by kernel_rfl
 cases hq : Tryz.prog.info? 9 with
 | none => rw [hq] at hs; simp at hs
 | some i =>
  rw [hq] at hz hs hb
  simp at hz hs hb
  exact ⟨i, rfl, hz, hs, hb⟩

theorem wpList_append_str {ops : Array Oper} {rest : List Oper} {o : Oper} {a : Act} {w : World} {Q : Exit → Act → World → Prop} (hgd : o.guard = none) (s x : Operand)
  (ho : o.op = .call { callee := .builtin .append, args := #[s, x], argTypes := #[157, 157] })
  (base : Nat) (v : Value) (n : Nat) (xs : List Value) (hs : a.eval s = v) (hown : w.ownsRow base 9 1 v n xs)
  (g : Nat) (hx : a.eval x = .slice (some ⟨g, 0, none⟩) 1 1) (q : ByteArray) (hg : w.heap[g]? = some (.cells #[.string q] 9 (0, 0)))
  (hn : n ≤ 1000) (hbase : base ≤ w.heap.size)
  (h : ∀ v' w', w'.ownsRow base 9 1 v' (n + 1) (xs ++ [.string q]) → w.grownBy w' v.ownBlock → wpList Tryz.prog ops Q rest (a.put o.dst v') w') : wpList Tryz.prog ops Q (o :: rest) a w := by
 obtain ⟨i, hi, hz, hsz, hby⟩ := info_str
 refine wpList_append_own (P := Tryz.prog) w hgd s x 157 ho base 9 i _ 1 16 Tryz.underlying157 hi hz hsz hby rfl (by decide) v n xs hs hown ⟨g, 0, none⟩ 1 1 [.string q] hx rfl ?_ ?_ (by simp only [maxLen]; omega) (by omega) hbase ?_
 ·
  intro j u hu
  have hadd : (⟨g, 0, none⟩ : Addr).add j = ⟨g, j, none⟩ := by unfold Addr.add; split <;> simp_all
  rw [hadd, cell_of_row w g j _ _ _ hg]
  simpa using hu
 ·
  intro u hu
  simp only [List.mem_cons, List.not_mem_nil, or_false] at hu
  subst hu
  rfl
 ·
  intro v' w' h1 h2 _
  exact h v' w' h1 h2

theorem owns_later1 {w w' : World} {base n : Nat} {v : Value} {xs : List Value} (h : w.ownsRow base 9 1 v n xs) (hb : Below w.heap.size w w') : w'.ownsRow base 9 1 v n xs := by
 refine h.kept (grown_of_below hb) ?_
 cases hv : v.ownBlock with
 | none => exact .inl rfl
 | some k => exact .inr (by simp)

def Pieced (w : World) (p : ByteArray) (e : Ending) (w' : World) : Prop := Below w.heap.size w w' ∧ match partsR (p.size + 1) p 0 with
 | none => e = .returned (.tuple #[.slice none 0 0, .bool false])
 | some ps => ∃ sv cs, e = .returned (.tuple #[sv, .bool (decide (0 < ps.length))]) ∧ Cut p cs ps ∧ w'.ownsRow w.heap.size 9 1 sv ps.length (strsOf p cs)

def _root_.Go.Value.isSliceOf (v : Value) (n : Nat) : Prop := ∃ a c, v = .slice a n c
theorem _root_.Go.World.ownsRow.isSlice {w : World} {base e size n : Nat} {v : Value} {xs : List Value} (h : w.ownsRow base e size v n xs) : v.isSliceOf n := by
 rcases h.2 with ⟨rfl, rfl⟩ | ⟨g, cap, cur, rfl, _⟩
 ·
  exact ⟨_, _, rfl⟩
 ·
  exact ⟨_, _, rfl⟩

def PL (w : World) (p : ByteArray) (a : Nat) (l : Value) (wr : World) : Prop := ∃ (ps : List Part) (cs : List (Nat × Nat)) (fuel : Nat), ps.length ≤ a ∧ p.size - a < fuel ∧ partsR (p.size + 1) p 0 = (partsR fuel p a).map (ps ++ ·) ∧ Cut p cs ps ∧ wr.ownsRow w.heap.size 9 1 l ps.length (strsOf p cs) ∧ Below w.heap.size w wr ∧ l.isSliceOf ps.length

theorem PL.none {w : World} {p : ByteArray} {a : Nat} {l : Value} {wr : World} (h : PL w p a l wr) (hlt : a < p.size) (hf : firstR (p.extract a p.size) = none) : Pieced w p (.returned (.tuple #[.slice none 0 0, .bool false])) wr := by
 obtain ⟨ps, cs, fuel, h1, h2, h3, h4, h5, h6, _⟩ := h
 obtain ⟨fu, rfl⟩ : ∃ fu, fuel = fu + 1 := ⟨fuel - 1, by omega⟩
 have h4' : partsR (fu + 1) p a = Option.none := by rw [partsR, if_pos hlt, hf]
 rw [h4'] at h3
 refine ⟨h6, ?_⟩
 rw [h3]
 rfl
theorem PL.done {w : World} {p : ByteArray} {a : Nat} {l : Value} {wr : World} (h : PL w p a l wr) (hge : ¬ a < p.size) : ∃ n : Nat, l.isSliceOf n ∧ Pieced w p (.returned (.tuple #[l, .bool (decide (0 < n))])) wr := by
 obtain ⟨ps, cs, fuel, h1, h2, h3, h4, h5, h6, h7⟩ := h
 obtain ⟨fu, rfl⟩ : ∃ fu, fuel = fu + 1 := ⟨fuel - 1, by omega⟩
 have h4' : partsR (fu + 1) p a = some [] := by rw [partsR, if_neg hge]
 rw [h4'] at h3
 refine ⟨ps.length, h7, h6, ?_⟩
 rw [h3]
 simp only [Option.map_some, List.append_nil]
 exact ⟨l, cs, rfl, h4, h5⟩
theorem PL.own {w : World} {p : ByteArray} {a : Nat} {l : Value} {wr : World} (h : PL w p a l wr) : ∃ n xs, n ≤ a ∧ wr.ownsRow w.heap.size 9 1 l n xs ∧ Below w.heap.size w wr ∧
  ∀ (f : Nat → Bool) (m : Bool) (k : Nat), a < p.size → firstR (p.extract a p.size) = some (f, m, k) → ∀ v' w', w'.ownsRow w.heap.size 9 1 v' (n + 1) (xs ++ [.string (p.extract a (a + k))]) → Below w.heap.size w w' → PL w p (a + k) v' w' := by
 obtain ⟨ps, cs, fuel, h1, h2, h3, h4, h5, h6, h7⟩ := h
 refine ⟨ps.length, strsOf p cs, h1, h5, h6, ?_⟩
 intro f m k hlt hf v' w' ho hb
 obtain ⟨fu, rfl⟩ : ∃ fu, fuel = fu + 1 := ⟨fuel - 1, by omega⟩
 have hbd := firstR_bound (by rw [size_extract]; omega) hf
 rw [size_extract] at hbd
 refine ⟨ps ++ [(f, m)], cs ++ [(a, k)], fu, by simp; omega, by omega, ?_, h4.snoc hlt hf, ?_, hb, ?_⟩
 ·
  rw [h3, partsR, if_pos hlt, hf]
  show Option.map _ (Option.map _ (partsR fu p (a + k))) = _
  generalize partsR fu p (a + k) = r
  cases r <;> simp
 ·
  rw [strsOf_snoc]; simpa using ho
 ·
  have := ho.isSlice
  simpa using this

set_option maxRecDepth 10000 in
set_option maxHeartbeats 2000000 in
theorem pieces_any (p : ByteArray) (hz : p.size ≤ 1000) (w : World) : Calls Tryz.prog 77 #[.string p] w (Pieced w p) := by
 go_enter Tryz.func77, Tryz.ntmps77
 go_wp2_with fail
 go_loopw [4, 5] (fun l at' wr => ∃ a : Nat, a ≤ p.size ∧ at' = .int .i64 a ∧ PL w p a l wr) (fun _ at' _ => p.size - (intOf at').toNat)
 case atStart => exact ⟨0, by omega, rfl, [], [], p.size + 1, by simp, by omega, by simp, Cut.nil p, World.ownsRow_nil _ _ _ _, Below.refl _ _, ⟨_, _, rfl⟩⟩
 case round =>
  obtain ⟨a, ha, rfl, hPL⟩ := hrel
  by_cases hlt : a < p.size
  ·
   have ek := byteAt_eq p a hlt
   have b256 := byteAt_lt p a
   have z0 : byteAt (p.extract a p.size) 0 = byteAt p a := by rw [byteAt_extract p a 0 (by omega)]; rfl
   have hst : starsB (p.extract a p.size) = (decide (2 ≤ p.size - a) && byteAt p a == 42 && byteAt p (a + 1) == 42) := by unfold starsB; rw [size_extract, z0, byteAt_extract p a 1 (by omega)]
   by_cases h42 : byteAt p a = 42
   ·
    have c42 : ((byteAt p a : Int) == 42) = true := by rw [beq_iff_eq]; omega
    by_cases h2 : a + 1 < p.size
    ·
     have e1 := byteAt_eq p (a + 1) h2
     have d1 : decide ((a : Int) + 1 < (p.size : Int)) = true := by simp; omega
     by_cases h1 : byteAt p (a + 1) = 42
     ·
      have c1 : ((byteAt p (a + 1) : Int) == 42) = true := by rw [beq_iff_eq]; omega
      have hF : firstR (p.extract a p.size) = some (notF fun _ => false, true, 2) := by unfold firstR; rw [if_pos (by rw [hst, h42, h1]; simp; omega)]
      clear hst h1 h42 z0
      obtain ⟨n, xs, hna, hown, hB, hnext⟩ := hPL.own
      have HX := hide (hnext _ _ _ hlt hF)
      have HO := hide hown
      have hbd := firstR_bound (by rw [size_extract]; omega) hF
      rw [size_extract] at hbd
      clear hF hPL hnext hown
      go_wp2_with (first | (refine wpList_append_str rfl _ _ rfl w.heap.size u4 n xs ?_ ?_ wr.heap.size ?_ (p.extract a (a + 2)) ?_ (by omega) ?_ ?_; (· rfl); (· exact owns_later1 HO.out ((Below.refl _ _).alloc (Nat.le_refl _) _)); (· rfl); (· exact heap_alloc_new _ _); (· exact Nat.le_trans hB.size (by simp)); intro v' w2 ho2 hg2))
      go_roundw
      case rel => exact ⟨a + 2, by omega, by go_num, HX.out _ _ ho2 ((hB.alloc hB.size _).grown hg2 (Nat.le_trans hB.size (by simp)) fun k hk => (HO.out.lt k hk).1)⟩
      case measure => simp [intOf]; omega
     ·
      have c1 : ((byteAt p (a + 1) : Int) == 42) = false := by rw [beq_eq_false_iff_ne]; omega
      have hF : firstR (p.extract a p.size) = some (notF (onlyF 47), true, 1) := by unfold firstR; rw [if_neg (by rw [hst]; simp [h1]), if_pos (by rw [z0, h42])]
      clear hst h1 h42 z0
      obtain ⟨n, xs, hna, hown, hB, hnext⟩ := hPL.own
      have HX := hide (hnext _ _ _ hlt hF)
      have HO := hide hown
      have hbd := firstR_bound (by rw [size_extract]; omega) hF
      rw [size_extract] at hbd
      clear hF hPL hnext hown
      go_wp2_with (first | (refine wpList_append_str rfl _ _ rfl w.heap.size u4 n xs ?_ ?_ wr.heap.size ?_ (p.extract a (a + 1)) ?_ (by omega) ?_ ?_; (· rfl); (· exact owns_later1 HO.out ((Below.refl _ _).alloc (Nat.le_refl _) _)); (· rfl); (· exact heap_alloc_new _ _); (· exact Nat.le_trans hB.size (by simp)); intro v' w2 ho2 hg2))
      go_roundw
      case rel => exact ⟨a + 1, by omega, by go_num, HX.out _ _ ho2 ((hB.alloc hB.size _).grown hg2 (Nat.le_trans hB.size (by simp)) fun k hk => (HO.out.lt k hk).1)⟩
      case measure => simp [intOf]; omega
    ·
     have d1 : decide ((a : Int) + 1 < (p.size : Int)) = false := by simp; omega
     have hF : firstR (p.extract a p.size) = some (notF (onlyF 47), true, 1) := by unfold firstR; rw [if_neg (by rw [hst]; simp; omega), if_pos (by rw [z0, h42])]
     clear hst h42 z0
     obtain ⟨n, xs, hna, hown, hB, hnext⟩ := hPL.own
     have HX := hide (hnext _ _ _ hlt hF)
     have HO := hide hown
     have hbd := firstR_bound (by rw [size_extract]; omega) hF
     rw [size_extract] at hbd
     clear hF hPL hnext hown
     go_wp2_with (first | (refine wpList_append_str rfl _ _ rfl w.heap.size u4 n xs ?_ ?_ wr.heap.size ?_ (p.extract a (a + 1)) ?_ (by omega) ?_ ?_; (· rfl); (· exact owns_later1 HO.out ((Below.refl _ _).alloc (Nat.le_refl _) _)); (· rfl); (· exact heap_alloc_new _ _); (· exact Nat.le_trans hB.size (by simp)); intro v' w2 ho2 hg2))
     go_roundw
     case rel => exact ⟨a + 1, by omega, by go_num, HX.out _ _ ho2 ((hB.alloc hB.size _).grown hg2 (Nat.le_trans hB.size (by simp)) fun k hk => (HO.out.lt k hk).1)⟩
     case measure => simp [intOf]; omega
   ·
    have c42 : ((byteAt p a : Int) == 42) = false := by rw [beq_eq_false_iff_ne]; omega
    have hns : ¬ starsB (p.extract a p.size) = true := by rw [hst]; simp [h42]
    by_cases h91 : byteAt p a = 91
    ·
     have c91 : ((byteAt p a : Int) == 91) = true := by rw [beq_iff_eq]; omega
     cases hcl : classR (p.extract a p.size) with
     | none =>
      have hF : firstR (p.extract a p.size) = none := by unfold firstR; rw [if_neg hns, z0, if_neg h42, if_neg (by omega), if_pos h91]; unfold classP; rw [hcl]; rfl
      have HV := hide (rclassV_none hcl)
      clear hst h42 h91 z0 hns hcl
      have HN := hide (hPL.none hlt hF)
      clear hF hPL
      go_wp2_with (go_at_call 106; refine (rclass_any p a hlt hz _).mono ?_; rintro e wx ⟨rfl, hwx⟩; rw [hwx, HV.out]; clear hwx wx)
      go_ret2
      exact HN.out
     | some x =>
      obtain ⟨f, k⟩ := x
      have hF : firstR (p.extract a p.size) = some (f, false, k) := by unfold firstR; rw [if_neg hns, z0, if_neg h42, if_neg (by omega), if_pos h91]; unfold classP; rw [hcl]; rfl
      have HV := hide (rclassV_some hcl)
      clear hst h42 h91 z0 hns hcl
      obtain ⟨n, xs, hna, hown, hB, hnext⟩ := hPL.own
      have HX := hide (hnext _ _ _ hlt hF)
      have HO := hide hown
      have hbd := firstR_bound (by rw [size_extract]; omega) hF
      rw [size_extract] at hbd
      clear hF hPL hnext hown
      go_wp2_with (first | (go_at_call 106; refine (rclass_any p a hlt hz _).mono ?_; rintro e wx ⟨rfl, hwx⟩; rw [hwx, HV.out]; clear hwx wx) | (refine wpList_append_str rfl _ _ rfl w.heap.size u4 n xs ?_ ?_ wr.heap.size ?_ (p.extract a (a + k)) ?_ (by omega) ?_ ?_; (· rfl); (· exact owns_later1 HO.out ((Below.refl _ _).alloc (Nat.le_refl _) _)); (· rfl); (· exact heap_alloc_new _ _); (· exact Nat.le_trans hB.size (by simp)); intro v' w2 ho2 hg2))
      go_roundw
      case rel => exact ⟨a + k, by omega, by go_num, HX.out _ _ ho2 ((hB.alloc hB.size _).grown hg2 (Nat.le_trans hB.size (by simp)) fun k hk => (HO.out.lt k hk).1)⟩
      case measure => simp [intOf]; omega
    ·
     have c91 : ((byteAt p a : Int) == 91) = false := by rw [beq_eq_false_iff_ne]; omega
     by_cases h92 : byteAt p a = 92
     ·
      have c92 : ((byteAt p a : Int) == 92) = true := by rw [beq_iff_eq]; omega
      have hE : firstR (p.extract a p.size) = escR (p.extract a p.size) := by unfold firstR; rw [if_neg hns, z0, if_neg h42, if_neg (by omega), if_neg h91, if_pos h92]
      unfold escR at hE
      rw [size_extract, byteAt_extract p a 1 (by omega)] at hE
      by_cases h2 : a + 1 < p.size
      ·
       have d2 : decide ((p.size : Int) < (a : Int) + 2) = false := by simp; omega
       have e1 := byteAt_eq p (a + 1) h2
       cases hsg : signB (byteAt p (a + 1))
       ·
        have hF : firstR (p.extract a p.size) = none := by rw [hE, if_neg (by rw [hsg]; simp)]
        clear hst h42 h91 h92 z0 hns hE
        have HN := hide (hPL.none hlt hF)
        clear hF hPL
        go_wp2_with (go_at_call 107; refine (special_any _ _).mono ?_; rintro e wx ⟨rfl, hwx⟩; rw [hwx]; clear hwx wx)
        go_ret2
        exact HN.out
       ·
        have hF : firstR (p.extract a p.size) = some (onlyF (byteAt p (a + 1)), false, 2) := by rw [hE, if_pos ⟨by omega, hsg⟩]
        clear hst h42 h91 h92 z0 hns hE
        obtain ⟨n, xs, hna, hown, hB, hnext⟩ := hPL.own
        have HX := hide (hnext _ _ _ hlt hF)
        have HO := hide hown
        have hbd := firstR_bound (by rw [size_extract]; omega) hF
        rw [size_extract] at hbd
        clear hF hPL hnext hown
        go_wp2_with (first | (go_at_call 107; refine (special_any _ _).mono ?_; rintro e wx ⟨rfl, hwx⟩; rw [hwx]; clear hwx wx) | (refine wpList_append_str rfl _ _ rfl w.heap.size u4 n xs ?_ ?_ wr.heap.size ?_ (p.extract a (a + 2)) ?_ (by omega) ?_ ?_; (· rfl); (· exact owns_later1 HO.out ((Below.refl _ _).alloc (Nat.le_refl _) _)); (· rfl); (· exact heap_alloc_new _ _); (· exact Nat.le_trans hB.size (by simp)); intro v' w2 ho2 hg2))
        go_roundw
        case rel => exact ⟨a + 2, by omega, by go_num, HX.out _ _ ho2 ((hB.alloc hB.size _).grown hg2 (Nat.le_trans hB.size (by simp)) fun k hk => (HO.out.lt k hk).1)⟩
        case measure => simp [intOf]; omega
      ·
       have d2 : decide ((p.size : Int) < (a : Int) + 2) = true := by simp; omega
       have hF : firstR (p.extract a p.size) = none := by rw [hE, if_neg (by omega)]
       clear hst h42 h91 h92 z0 hns hE
       have HN := hide (hPL.none hlt hF)
       clear hF hPL
       go_wp2_with fail
       go_ret2
       exact HN.out
     ·
      have c92 : ((byteAt p a : Int) == 92) = false := by rw [beq_eq_false_iff_ne]; omega
      by_cases h63 : byteAt p a = 63
      ·
       have c63 : ((byteAt p a : Int) == 63) = true := by rw [beq_iff_eq]; omega
       have hF : firstR (p.extract a p.size) = some (notF (onlyF 47), false, 1) := by unfold firstR; rw [if_neg hns, z0, if_neg h42, if_pos h63]
       clear hst h42 h91 h92 h63 z0 hns
       obtain ⟨n, xs, hna, hown, hB, hnext⟩ := hPL.own
       have HX := hide (hnext _ _ _ hlt hF)
       have HO := hide hown
       have hbd := firstR_bound (by rw [size_extract]; omega) hF
       rw [size_extract] at hbd
       clear hF hPL hnext hown
       go_wp2_with (first | (refine wpList_append_str rfl _ _ rfl w.heap.size u4 n xs ?_ ?_ wr.heap.size ?_ (p.extract a (a + 1)) ?_ (by omega) ?_ ?_; (· rfl); (· exact owns_later1 HO.out ((Below.refl _ _).alloc (Nat.le_refl _) _)); (· rfl); (· exact heap_alloc_new _ _); (· exact Nat.le_trans hB.size (by simp)); intro v' w2 ho2 hg2))
       go_roundw
       case rel => exact ⟨a + 1, by omega, by go_num, HX.out _ _ ho2 ((hB.alloc hB.size _).grown hg2 (Nat.le_trans hB.size (by simp)) fun k hk => (HO.out.lt k hk).1)⟩
       case measure => simp [intOf]; omega
      ·
       have c63 : ((byteAt p a : Int) == 63) = false := by rw [beq_eq_false_iff_ne]; omega
       have hE : firstR (p.extract a p.size) = if plainB (byteAt p a) = true then some (onlyF (byteAt p a), false, 1) else none := by unfold firstR; rw [if_neg hns, z0, if_neg h42, if_neg h63, if_neg h91, if_neg h92]
       have hpl : plainB (byteAt p a) = !(decide ((byteAt p a : Int) < 33) || decide (126 < (byteAt p a : Int)) || (byteAt p a : Int) == 34 || (byteAt p a : Int) == 93) := by
        rw [Bool.eq_iff_iff]; simp [plainB, signB]; omega
       by_cases g1 : byteAt p a < 33
       ·
        have hF : firstR (p.extract a p.size) = none := by rw [hE, if_neg (by rw [hpl]; simp; omega)]
        have x1 : decide ((byteAt p a : Int) < 33) = true := by simp; omega
        clear hst h42 h91 h92 h63 z0 hns hE hpl
        have HN := hide (hPL.none hlt hF)
        clear hF hPL
        go_wp2_with fail
        go_ret2
        exact HN.out
       ·
        have x1 : decide ((byteAt p a : Int) < 33) = false := by simp; omega
        by_cases g2 : 126 < byteAt p a
        ·
         have hF : firstR (p.extract a p.size) = none := by rw [hE, if_neg (by rw [hpl]; simp; omega)]
         have x2 : decide (126 < (byteAt p a : Int)) = true := by simp; omega
         clear hst h42 h91 h92 h63 z0 hns hE hpl
         have HN := hide (hPL.none hlt hF)
         clear hF hPL
         go_wp2_with fail
         go_ret2
         exact HN.out
        ·
         have x2 : decide (126 < (byteAt p a : Int)) = false := by simp; omega
         by_cases g3 : byteAt p a = 34
         ·
          have hF : firstR (p.extract a p.size) = none := by rw [hE, if_neg (by rw [hpl]; simp; omega)]
          have c34 : ((byteAt p a : Int) == 34) = true := by rw [beq_iff_eq]; omega
          clear hst h42 h91 h92 h63 z0 hns hE hpl g3
          have HN := hide (hPL.none hlt hF)
          clear hF hPL
          go_wp2_with fail
          go_ret2
          exact HN.out
         ·
          have c34 : ((byteAt p a : Int) == 34) = false := by rw [beq_eq_false_iff_ne]; omega
          by_cases g4 : byteAt p a = 93
          ·
           have hF : firstR (p.extract a p.size) = none := by rw [hE, if_neg (by rw [hpl]; simp; omega)]
           have c93 : ((byteAt p a : Int) == 93) = true := by rw [beq_iff_eq]; omega
           clear hst h42 h91 h92 h63 z0 hns hE hpl g3 g4
           have HN := hide (hPL.none hlt hF)
           clear hF hPL
           go_wp2_with fail
           go_ret2
           exact HN.out
          ·
           have hF : firstR (p.extract a p.size) = some (onlyF (byteAt p a), false, 1) := by rw [hE, if_pos (by rw [hpl]; simp; omega)]
           have c93 : ((byteAt p a : Int) == 93) = false := by rw [beq_eq_false_iff_ne]; omega
           clear hst h42 h91 h92 h63 z0 hns hE hpl g3 g4
           obtain ⟨n, xs, hna, hown, hB, hnext⟩ := hPL.own
           have HX := hide (hnext _ _ _ hlt hF)
           have HO := hide hown
           have hbd := firstR_bound (by rw [size_extract]; omega) hF
           rw [size_extract] at hbd
           clear hF hPL hnext hown
           go_wp2_with (first | (refine wpList_append_str rfl _ _ rfl w.heap.size u4 n xs ?_ ?_ wr.heap.size ?_ (p.extract a (a + 1)) ?_ (by omega) ?_ ?_; (· rfl); (· exact owns_later1 HO.out ((Below.refl _ _).alloc (Nat.le_refl _) _)); (· rfl); (· exact heap_alloc_new _ _); (· exact Nat.le_trans hB.size (by simp)); intro v' w2 ho2 hg2))
           go_roundw
           case rel => exact ⟨a + 1, by omega, by go_num, HX.out _ _ ho2 ((hB.alloc hB.size _).grown hg2 (Nat.le_trans hB.size (by simp)) fun k hk => (HO.out.lt k hk).1)⟩
           case measure => simp [intOf]; omega
  ·
   obtain ⟨n, ⟨ad, cp, rfl⟩, hfin⟩ := hPL.done hlt
   have HN := hide hfin
   clear hfin hPL
   go_wp2_with fail
   go_ret2
   exact HN.out
end Go.Proofs.YtklibmijiecbfaaGreat.Gl

/- The language of a list of parts: what the places of Match and the rows of the document's like both compute. -/
namespace Go.Proofs.YtklibmijiecbfaaGreat.Gl
open Go.RowKit

def rowOf (m : Bool) (f r : Nat → Bool) (s : ByteArray) : Nat → Bool
 | 0 => m && r 0
 | j + 1 => if m = true then r (j + 1) || (rowOf m f r s j && f (byteAt s j)) else r j && f (byteAt s j)
def reach (ps : List Part) (s : ByteArray) : Nat → Nat → Bool
 | 0 => fun j => j == 0
 | i + 1 => rowOf (manyAt ps i) (likeAt ps i) (reach ps s i) s

theorem rowOf_one (f r : Nat → Bool) (s : ByteArray) (x : Nat) : rowOf false f r s x = true ↔ ∃ i, r i = true ∧ f (byteAt s i) = true ∧ x = i + 1 := by
 cases x with
 | zero => simp [rowOf]
 | succ j =>
  simp only [rowOf, Bool.false_eq_true, if_false, Bool.and_eq_true]
  constructor
  ·
   intro h; exact ⟨j, h.1, h.2, rfl⟩
  ·
   rintro ⟨i, h1, h2, h3⟩
   obtain rfl : j = i := by omega
   exact ⟨h1, h2⟩
theorem rowOf_many (f r : Nat → Bool) (s : ByteArray) (x : Nat) : rowOf true f r s x = true ↔ ∃ i, i ≤ x ∧ r i = true ∧ ∀ y, i ≤ y → y < x → f (byteAt s y) = true := by
 induction x with
 | zero =>
  simp only [rowOf, Bool.true_and]
  constructor
  ·
   intro h; exact ⟨0, Nat.le_refl _, h, fun y _ h => by omega⟩
  ·
   rintro ⟨i, h1, h2, _⟩
   obtain rfl : i = 0 := by omega
   exact h2
 | succ j ih =>
  simp only [rowOf, if_true, Bool.or_eq_true, Bool.and_eq_true]
  constructor
  ·
   rintro (h | ⟨h1, h2⟩)
   ·
    exact ⟨j + 1, Nat.le_refl _, h, fun y a b => by omega⟩
   ·
    obtain ⟨i, a, b, c⟩ := ih.1 h1
    refine ⟨i, by omega, b, fun y hy1 hy2 => ?_⟩
    by_cases e : y = j
    ·
     subst e; exact h2
    ·
     exact c y hy1 (by omega)
  ·
   rintro ⟨i, a, b, c⟩
   by_cases e : i = j + 1
   ·
    left; rw [← e]; exact b
   ·
    right
    exact ⟨ih.2 ⟨i, by omega, b, fun y h1 h2 => c y h1 (by omega)⟩, c j (by omega) (by omega)⟩

def closure (ps : List Part) (g : Nat → Bool) : Nat → Bool
 | 0 => g 0
 | i + 1 => g (i + 1) || (manyAt ps i && closure ps g i)
theorem passTo_at (ps : List Part) (g : Nat → Bool) : ∀ k i, passTo ps g k i = if i ≤ k then closure ps g i else g i
 | 0, i => by
  cases i with
  | zero => rfl
  | succ i => simp [passTo]
 | k + 1, i => by
  have ih := passTo_at ps g k
  have hk : passTo ps g k k = closure ps g k := by rw [ih]; simp
  rw [passTo]
  by_cases hi : i = k + 1
  ·
   subst hi
   have h1 : passTo ps g k (k + 1) = g (k + 1) := by rw [ih, if_neg (by omega)]
   rw [if_pos (Nat.le_refl _), closure]
   split
   ·
    rename_i hc
    rw [hk] at hc
    simp only [Bool.and_eq_true] at hc
    simp [upd, hc.1, hc.2]
   ·
    rename_i hc
    rw [hk] at hc
    have : (manyAt ps k && closure ps g k) = false := by
     rw [Bool.and_comm]; simpa using hc
    rw [h1, this]
    simp
  ·
   have h2 : (if i ≤ k + 1 then closure ps g i else g i) = (if i ≤ k then closure ps g i else g i) := by
    by_cases hl : i ≤ k
    ·
     rw [if_pos hl, if_pos (by omega)]
    ·
     rw [if_neg hl, if_neg (by omega)]
   rw [h2, ← ih i]
   split
   ·
    simp [upd, hi]
   ·
    rfl

theorem stepTo_at (ps : List Part) (f : Nat → Bool) (b : Nat) : ∀ k i, stepTo ps f b k i = true ↔ (i < k ∧ f i = true ∧ likeAt ps i b = true ∧ manyAt ps i = true) ∨ ∃ i', i = i' + 1 ∧ i' < k ∧ f i' = true ∧ likeAt ps i' b = true ∧ manyAt ps i' = false
 | 0, i => by simp [stepTo]
 | k + 1, i => by
  have ih := stepTo_at ps f b k i
  rw [stepTo]
  split
  ·
   rename_i hc
   simp only [Bool.and_eq_true] at hc
   split
   ·
    rename_i hm
    by_cases e : i = k
    ·
     subst e
     simp only [upd, if_true]
     exact ⟨fun _ => .inl ⟨by omega, hc.1, hc.2, hm⟩, fun _ => trivial⟩
    ·
     simp only [upd, if_neg e]
     rw [ih]
     constructor
     ·
      rintro (⟨a, r⟩ | ⟨i', a, b', r⟩)
      ·
       exact .inl ⟨by omega, r⟩
      ·
       exact .inr ⟨i', a, by omega, r⟩
     ·
      rintro (⟨a, r⟩ | ⟨i', a, b', r⟩)
      ·
       exact .inl ⟨by omega, r⟩
      ·
       refine .inr ⟨i', a, ?_, r⟩
       by_cases e2 : i' = k
       ·
        subst e2; rw [hm] at r; simp at r
       ·
        omega
   ·
    rename_i hm
    have hm' : manyAt ps k = false := by simpa using hm
    by_cases e : i = k + 1
    ·
     subst e
     simp only [upd, if_true]
     exact ⟨fun _ => .inr ⟨k, rfl, by omega, hc.1, hc.2, hm'⟩, fun _ => trivial⟩
    ·
     simp only [upd, if_neg e]
     rw [ih]
     constructor
     ·
      rintro (⟨a, r⟩ | ⟨i', a, b', r⟩)
      ·
       exact .inl ⟨by omega, r⟩
      ·
       exact .inr ⟨i', a, by omega, r⟩
     ·
      rintro (⟨a, r⟩ | ⟨i', a, b', r⟩)
      ·
       refine .inl ⟨?_, r⟩
       by_cases e2 : i = k
       ·
        subst e2; rw [hm'] at r; simp at r
       ·
        omega
      ·
       exact .inr ⟨i', a, by omega, r⟩
  ·
   rename_i hc
   rw [ih]
   constructor
   ·
    rintro (⟨a, r⟩ | ⟨i', a, b', r⟩)
    ·
     exact .inl ⟨by omega, r⟩
    ·
     exact .inr ⟨i', a, by omega, r⟩
   ·
    rintro (⟨a, r⟩ | ⟨i', a, b', r⟩)
    ·
     refine .inl ⟨?_, r⟩
     by_cases e2 : i = k
     ·
      subst e2; exact absurd (by rw [r.1, r.2.1]; rfl) hc
     ·
      omega
    ·
     refine .inr ⟨i', a, ?_, r⟩
     by_cases e2 : i' = k
     ·
      subst e2; exact absurd (by rw [r.1, r.2.1]; rfl) hc
     ·
      omega

def placeAt (ps : List Part) (s : ByteArray) (i j : Nat) : Bool := if i < ps.length ∧ manyAt ps i = true then reach ps s (i + 1) j else reach ps s i j

theorem reach_nought (ps : List Part) (s : ByteArray) (i : Nat) : reach ps s (i + 1) 0 = (manyAt ps i && reach ps s i 0) := rfl
theorem reach_many (ps : List Part) (s : ByteArray) (i j : Nat) (h : manyAt ps i = true) : reach ps s (i + 1) (j + 1) = (reach ps s i (j + 1) || (reach ps s (i + 1) j && likeAt ps i (byteAt s j))) := by
 show rowOf _ _ _ _ _ = _
 rw [rowOf, if_pos h]
 rfl
theorem reach_one (ps : List Part) (s : ByteArray) (i j : Nat) (h : manyAt ps i = false) : reach ps s (i + 1) (j + 1) = (reach ps s i j && likeAt ps i (byteAt s j)) := by
 show rowOf _ _ _ _ _ = _
 rw [rowOf, if_neg (by rw [h]; simp)]

theorem place_start (ps : List Part) (s : ByteArray) : ∀ i, i ≤ ps.length → closure ps (fun i => i == 0) i = placeAt ps s i 0
 | 0, _ => by
  unfold placeAt
  split
  ·
   rename_i h; rw [reach_nought, h.2]; rfl
  ·
   rfl
 | i + 1, hi => by
  have ih := place_start ps s i (by omega)
  have e : placeAt ps s (i + 1) 0 = reach ps s (i + 1) 0 := by
   unfold placeAt
   split
   ·
    rename_i h; rw [reach_nought, h.2]; rfl
   ·
    rfl
  rw [e, closure, ih]
  cases hm : manyAt ps i
  ·
   rw [reach_nought, hm]; rfl
  ·
   have : placeAt ps s i 0 = reach ps s (i + 1) 0 := by unfold placeAt; rw [if_pos ⟨by omega, hm⟩]
   rw [this]
   simp

theorem place_step (ps : List Part) (s : ByteArray) (f : Nat → Bool) (j : Nat) (hf : ∀ i, i ≤ ps.length → f i = placeAt ps s i j) : ∀ i, i ≤ ps.length → closure ps (stepTo ps f (byteAt s j) ps.length) i = placeAt ps s i (j + 1) := by
 -- the place's own star
 have hA : ∀ i, i ≤ ps.length → ∀ x : Bool, (x = true ↔ ∃ i', i = i' + 1 ∧ i' < ps.length ∧ f i' = true ∧ likeAt ps i' (byteAt s j) = true ∧ manyAt ps i' = false) → stepTo ps f (byteAt s j) ps.length i = ((decide (i < ps.length) && manyAt ps i && reach ps s (i + 1) j && likeAt ps i (byteAt s j)) || x) := by
  intro i hi x hx
  rw [Bool.eq_iff_iff, stepTo_at]
  simp only [Bool.or_eq_true, Bool.and_eq_true, decide_eq_true_eq]
  rw [hx]
  constructor
  ·
   rintro (⟨h1, h2, h3, h4⟩ | h)
   ·
    rw [hf i hi] at h2
    unfold placeAt at h2
    rw [if_pos ⟨h1, h4⟩] at h2
    exact .inl ⟨⟨⟨h1, h4⟩, h2⟩, h3⟩
   ·
    exact .inr h
  ·
   rintro (⟨⟨⟨h1, h4⟩, h2⟩, h3⟩ | h)
   ·
    refine .inl ⟨h1, ?_, h3, h4⟩
    rw [hf i hi]
    unfold placeAt
    rw [if_pos ⟨h1, h4⟩]
    exact h2
   ·
    exact .inr h
 intro i
 induction i with
 | zero =>
  intro hi
  rw [closure, hA 0 hi false (by simp)]
  unfold placeAt
  by_cases h : 0 < ps.length ∧ manyAt ps 0 = true
  ·
   rw [if_pos h, reach_many _ _ _ _ h.2]
   simp [h.1, h.2, reach]
  ·
   rw [if_neg h]
   have : (decide (0 < ps.length) && manyAt ps 0) = false := by
    rw [Bool.and_eq_false_iff]
    by_cases h0 : 0 < ps.length
    ·
     right; simpa [h0] using h
    ·
     left; simpa using h0
   rw [this]
   rfl
 | succ i ih =>
  intro hi
  have ih' := ih (by omega)
  have hlast : (placeAt ps s (i + 1) (j + 1)) = ((decide (i + 1 < ps.length) && manyAt ps (i + 1) && reach ps s (i + 2) j && likeAt ps (i + 1) (byteAt s j)) || reach ps s (i + 1) (j + 1)) := by
   unfold placeAt
   by_cases h : i + 1 < ps.length ∧ manyAt ps (i + 1) = true
   ·
    rw [if_pos h, reach_many _ _ _ _ h.2, Bool.or_comm]
    simp [h.1, h.2]
   ·
    rw [if_neg h]
    have : (decide (i + 1 < ps.length) && manyAt ps (i + 1)) = false := by
     rw [Bool.and_eq_false_iff]
     by_cases h0 : i + 1 < ps.length
     ·
      right; simpa [h0] using h
     ·
      left; simpa using h0
    rw [this]
    simp
  cases hm : manyAt ps i
  ·
   have hp : placeAt ps s i j = reach ps s i j := by unfold placeAt; rw [if_neg (by rw [hm]; simp)]
   rw [closure, hA (i + 1) hi (reach ps s (i + 1) (j + 1)), hlast, hm]
   ·
    simp
   ·
    rw [reach_one _ _ _ _ hm, Bool.and_eq_true]
    constructor
    ·
     rintro ⟨a, b⟩
     exact ⟨i, rfl, by omega, by rw [hf i (by omega), hp]; exact a, b, hm⟩
    ·
     rintro ⟨i', e, _, a, b, _⟩
     obtain rfl : i = i' := by omega
     rw [hf i (by omega), hp] at a
     exact ⟨a, b⟩
  ·
   have hp : placeAt ps s i (j + 1) = reach ps s (i + 1) (j + 1) := by unfold placeAt; rw [if_pos ⟨by omega, hm⟩]
   rw [closure, hA (i + 1) hi false, hlast, hm, ih', hp]
   ·
    simp
   ·
    constructor
    ·
     intro h; simp at h
    ·
     rintro ⟨i', e, _, _, _, c⟩
     obtain rfl : i = i' := by omega
     rw [hm] at c
     simp at c

theorem runTo_place (ps : List Part) (s : ByteArray) : ∀ j i, i ≤ ps.length → runTo ps s j i = placeAt ps s i j
 | 0, i, hi => by
  rw [runTo, passTo_at, if_pos hi]
  exact place_start ps s i hi
 | j + 1, i, hi => by
  rw [runTo, passTo_at, if_pos hi]
  exact place_step ps s _ j (fun i h => runTo_place ps s j i h) i hi

theorem runTo_reach (ps : List Part) (s : ByteArray) : runTo ps s s.size ps.length = reach ps s ps.length s.size := by
 rw [runTo_place ps s s.size ps.length (Nat.le_refl _)]
 unfold placeAt
 rw [if_neg (by omega)]
end Go.Proofs.YtklibmijiecbfaaGreat.Gl
