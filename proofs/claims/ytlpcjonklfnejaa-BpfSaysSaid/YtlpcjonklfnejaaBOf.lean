/- The document's ProgramOf. -/
import Derived.Test.YtlpcjonklfnejaaBParse
import Derived.Test.YtlpcjonklfnejaaBFault
namespace Go.Proofs.Ytlpcjonklfnejaa
open Go.RowKit

/-- The cells of the first i instructions. -/
def flatI (M : Nat → IN) : Nat → List Value
  | 0 => []
  | i + 1 => flatI M i ++ [.int .i64 (M i).op, .int .i64 (M i).jt, .int .i64 (M i).jf, .int .u32 (M i).k]
theorem flatI_len (M : Nat → IN) : ∀ i, (flatI M i).length = i * 4
  | 0 => rfl
  | i + 1 => by rw [flatI, List.length_append, flatI_len M i]; simp; omega
theorem flatI_get (M : Nat → IN) : ∀ n i j, i < n → j < 4 → (flatI M n)[i * 4 + j]? = some (insCell (M i) j)
  | n + 1, i, j, hi, hj => by
    rw [flatI, List.getElem?_append, flatI_len]
    by_cases h : i < n
    · rw [if_pos (by omega)]; exact flatI_get M n i j h hj
    · obtain rfl : i = n := by omega
      rw [if_neg (by omega), show i * 4 + j - i * 4 = j by omega]
      have hc : j = 0 ∨ j = 1 ∨ j = 2 ∨ j = 3 := by omega
      rcases hc with rfl | rfl | rfl | rfl <;> rfl
theorem prog_owned {W : World} {base n : Nat} {v : Value} {M : Nat → IN} (h : W.ownsRow base 78 4 v n (flatI M n)) (hok : ∀ i, i < n → InOk (M i)) : ∃ oa cap, v = .slice oa n cap ∧ IsProg oa n M W := by
  rcases Go.Joins.ownsRow_forms h with ⟨rfl, rfl⟩ | ⟨g, cap, rfl⟩
  · exact ⟨none, 0, rfl, ⟨fun h0 => absurd h0 (Nat.lt_irrefl 0)⟩⟩
  · refine ⟨_, _, rfl, ⟨fun h0 => ⟨g, 0, rfl, (h.lt g rfl).2, fun i hi => ?_⟩⟩⟩
    have hc := fun j (hj : j < 4) => h.cells (g := g) rfl (i * 4 + j) _ (flatI_get M n i j hi hj)
    have e := fun j => show (⟨g, 0, none⟩ : Addr).add (i * 4 + j) = ⟨g, 0 + i * 4 + j, none⟩ by unfold Addr.add; split <;> simp_all
    exact ⟨by have := hc 0 (by omega); rw [e 0] at this; exact this, by have := hc 1 (by omega); rw [e 1] at this; exact this, by have := hc 2 (by omega); rw [e 2] at this; exact this, by have := hc 3 (by omega); rw [e 3] at this; exact this, hok i hi⟩

/-- Four bytes from o on, the highest first, m of them. -/
def kDn (s : ByteArray) (o : Nat) : Nat → Nat
  | 0 => 0
  | m + 1 => kDn s o m * 256 + byteAt s (o + 3 - m)
theorem kDn_all (s : ByteArray) (o : Nat) : kDn s o 4 = kTo s o 4 := by
  simp only [kDn, kTo]
  simp only [Nat.add_zero, Nat.zero_mul, Nat.zero_add, Nat.sub_zero, Nat.pow_zero, Nat.mul_one, Nat.reducePow]
  rw [show o + 3 - 1 = o + 2 by omega, show o + 3 - 2 = o + 1 by omega, show o + 3 - 3 = o by omega]
  omega
theorem kDn_lt (s : ByteArray) (o : Nat) : ∀ m, kDn s o m < 256 ^ m
  | 0 => Nat.one_pos
  | m + 1 => by
    have h1 := kDn_lt s o m
    have h2 := byteAt_lt s (o + 3 - m)
    rw [kDn, Nat.pow_succ]
    omega

theorem rof_short (s : ByteArray) (hs : 32768 < s.size ∨ s.size % 8 ≠ 0) (hm : s.size ≤ 9223372036854775807) (w : World) :
    Calls Try.prog 53 #[.string s] w fun e w' => e = .returned (.tuple #[.slice none 0 0, .bool false]) ∧ Below w.heap.size w w' := by
  by_cases h8 : s.size % 8 = 0
  · have d8 : (s.size : Int) % 8 = 0 := by omega
    have h3 : 32768 < s.size := by omega
    go_enter Try.func53, Try.ntmps53
    go_wp2
    go_ret2
    exact ⟨rfl, Below.refl _ _⟩
  · have d8 : 0 < (s.size : Int) % 8 := by omega
    go_enter Try.func53, Try.ntmps53
    go_wp2
    go_ret2
    exact ⟨rfl, Below.refl _ _⟩

set_option maxRecDepth 100000 in
set_option maxHeartbeats 4000000 in
theorem rof_any (s : ByteArray) (n : Nat) (hn : s.size = 8 * n) (hm : n ≤ 4096) (w : World) :
    Calls Try.prog 53 #[.string s] w fun e w' => Below w.heap.size w w' ∧ ((checkR n (progOf s) = 0 ∧ strB (progB (progOf s) n) = s ∧ ∃ oa cap, e = .returned (.tuple #[.slice oa n cap, .bool true]) ∧ IsProg oa n (progOf s) w') ∨
      (¬ (checkR n (progOf s) = 0 ∧ strB (progB (progOf s) n) = s) ∧ e = .returned (.tuple #[.slice none 0 0, .bool false]))) := by
  have d8 : (s.size : Int) % 8 = 0 := by omega
  have d3 : decide ((32768 : Int) < (s.size : Int)) = false := by simp; omega
  obtain ⟨inf, hi0, hz0, hz1, hz2⟩ := info_ins
  have hsz : s.size ≤ 32768 := by omega
  replace hn := hide hn
  go_enter Try.func53, Try.ntmps53
  go_wp2
  clear d8
  go_loopw [4, 5] (fun V I wr => ∃ i q : Nat, i ≤ n ∧ I = .int .i64 q ∧ q ≤ s.size ∧ Hid (q = 8 * i) ∧ Hid (wr.ownsRow w.heap.size 78 4 V i (flatI (progOf s) i)) ∧ Hid (Below w.heap.size w wr)) (fun _ I _ => s.size - (intOf I).toNat)
  case atStart => exact ⟨0, 0, by omega, rfl, by omega, hide rfl, hide (World.ownsRow_nil _ _ _ _), hide (Below.refl _ _)⟩
  case round =>
    obtain ⟨i, q, hi, rfl, hq, HQ, HR, HB⟩ := hrel
    by_cases hlt : i < n
    · have hbs := HB.out.size
      have hq8 : q + 8 ≤ s.size := by have := HQ.out; have := hn.out; omega
      have hqi : (0 : Int) ≤ (q : Int) := Int.natCast_nonneg _
      have hq0 : (q : Int) < (s.size : Int) := by omega
      have hq2 : (q : Int) + 2 < (s.size : Int) := by omega
      have hq3 : (q : Int) + 3 < (s.size : Int) := by omega
      have dl : decide ((q : Int) < (s.size : Int)) = true := by simp; omega
      go_wp2
      obtain ⟨wo, hwo⟩ : ∃ wo : World, wo = wr := ⟨_, rfl⟩
      rw [← hwo] at HR HB hbs ⊢
      clear hwo
      go_loopw [6, 7] (fun K N wr => ∃ m : Nat, m ≤ 4 ∧ N = .int .i64 (7 - (m : Int)) ∧ K = .int .u32 (kDn s (q + 4) m) ∧ wr = wo) (fun _ N _ => (intOf N).toNat)
      case atStart => exact ⟨0, by omega, rfl, rfl, rfl⟩
      case round =>
        obtain ⟨m, hm4, rfl, rfl, rfl⟩ := hrel
        have hcase : m = 0 ∨ m = 1 ∨ m = 2 ∨ m = 3 ∨ m = 4 := by omega
        rcases hcase with rfl | rfl | rfl | rfl | rfl
        · have bb := byteAt_eq s (q + 7) (by omega)
          have lb := byteAt_lt s (q + 7)
          have HK := hide (show kDn s (q + 4) (0 + 1) = kDn s (q + 4) 0 * 256 + byteAt s (q + 7) by show kDn s (q + 4) 0 * 256 + byteAt s (q + 4 + 3 - 0) = _; rw [show q + 4 + 3 - 0 = q + 7 by omega])
          have lk := kDn_lt s (q + 4) 0
          simp only [Nat.reducePow] at lk
          obtain ⟨y, hy⟩ : ∃ y, y = byteAt s (q + 7) := ⟨_, rfl⟩
          obtain ⟨z, hz⟩ : ∃ z, z = kDn s (q + 4) 0 := ⟨_, rfl⟩
          rw [← hy] at bb lb HK
          rw [← hz] at lk HK ⊢
          clear hy hz
          go_wp2
          go_round
          case rel => exact ⟨0 + 1, by omega, by go_num, by rw [HK.out]; go_num, trivial⟩
          case measure => simp [intOf]
        · have bb := byteAt_eq s (q + 6) (by omega)
          have lb := byteAt_lt s (q + 6)
          have HK := hide (show kDn s (q + 4) (1 + 1) = kDn s (q + 4) 1 * 256 + byteAt s (q + 6) by show kDn s (q + 4) 1 * 256 + byteAt s (q + 4 + 3 - 1) = _; rw [show q + 4 + 3 - 1 = q + 6 by omega])
          have lk := kDn_lt s (q + 4) 1
          simp only [Nat.reducePow] at lk
          obtain ⟨y, hy⟩ : ∃ y, y = byteAt s (q + 6) := ⟨_, rfl⟩
          obtain ⟨z, hz⟩ : ∃ z, z = kDn s (q + 4) 1 := ⟨_, rfl⟩
          rw [← hy] at bb lb HK
          rw [← hz] at lk HK ⊢
          clear hy hz
          go_wp2
          go_round
          case rel => exact ⟨1 + 1, by omega, by go_num, by rw [HK.out]; go_num, trivial⟩
          case measure => simp [intOf]
        · have bb := byteAt_eq s (q + 5) (by omega)
          have lb := byteAt_lt s (q + 5)
          have HK := hide (show kDn s (q + 4) (2 + 1) = kDn s (q + 4) 2 * 256 + byteAt s (q + 5) by show kDn s (q + 4) 2 * 256 + byteAt s (q + 4 + 3 - 2) = _; rw [show q + 4 + 3 - 2 = q + 5 by omega])
          have lk := kDn_lt s (q + 4) 2
          simp only [Nat.reducePow] at lk
          obtain ⟨y, hy⟩ : ∃ y, y = byteAt s (q + 5) := ⟨_, rfl⟩
          obtain ⟨z, hz⟩ : ∃ z, z = kDn s (q + 4) 2 := ⟨_, rfl⟩
          rw [← hy] at bb lb HK
          rw [← hz] at lk HK ⊢
          clear hy hz
          go_wp2
          go_round
          case rel => exact ⟨2 + 1, by omega, by go_num, by rw [HK.out]; go_num, trivial⟩
          case measure => simp [intOf]
        · have bb := byteAt_eq s (q + 4) (by omega)
          have lb := byteAt_lt s (q + 4)
          have HK := hide (show kDn s (q + 4) (3 + 1) = kDn s (q + 4) 3 * 256 + byteAt s (q + 4) by show kDn s (q + 4) 3 * 256 + byteAt s (q + 4 + 3 - 3) = _; rw [show q + 4 + 3 - 3 = q + 4 by omega])
          have lk := kDn_lt s (q + 4) 3
          simp only [Nat.reducePow] at lk
          obtain ⟨y, hy⟩ : ∃ y, y = byteAt s (q + 4) := ⟨_, rfl⟩
          obtain ⟨z, hz⟩ : ∃ z, z = kDn s (q + 4) 3 := ⟨_, rfl⟩
          rw [← hy] at bb lb HK
          rw [← hz] at lk HK ⊢
          clear hy hz
          go_wp2
          go_round
          case rel => exact ⟨3 + 1, by omega, by go_num, by rw [HK.out]; go_num, trivial⟩
          case measure => simp [intOf]
        · have b0 := byteAt_eq s q (by omega)
          have b2 := byteAt_eq s (q + 2) (by omega)
          have b3 := byteAt_eq s (q + 3) (by omega)
          have l0 := byteAt_lt s q
          have l2 := byteAt_lt s (q + 2)
          have l3 := byteAt_lt s (q + 3)
          have HX := hide (show progOf s i = ⟨byteAt s q, byteAt s (q + 2), byteAt s (q + 3), kDn s (q + 4) 4⟩ by unfold progOf insAt; rw [kDn_all, HQ.out])
          obtain ⟨x0, hx0⟩ : ∃ x, x = byteAt s q := ⟨_, rfl⟩
          obtain ⟨x2, hx2⟩ : ∃ x, x = byteAt s (q + 2) := ⟨_, rfl⟩
          obtain ⟨x3, hx3⟩ : ∃ x, x = byteAt s (q + 3) := ⟨_, rfl⟩
          obtain ⟨k, hk⟩ : ∃ k, k = kDn s (q + 4) 4 := ⟨_, rfl⟩
          rw [← hx0] at b0 l0 HX
          rw [← hx2] at b2 l2 HX
          rw [← hx3] at b3 l3 HX
          rw [← hk] at HX ⊢
          clear hx0 hx2 hx3 hk
          have hw2 : IntKind.i64.wrap ((q : Int) + 2) = (q : Int) + 2 := by rw [IntKind.wrap_i64]; omega
          have hw3 : IntKind.i64.wrap ((q : Int) + 3) = (q : Int) + 3 := by rw [IntKind.wrap_i64]; omega
          have HV0 := hide (show IntKind.i64.wrap (x0 : Int) = (x0 : Int) by rw [IntKind.wrap_i64]; omega)
          have HV2 := hide (show ∀ h : ((q : Int) + 2).toNat < s.size, IntKind.i64.wrap (((s[((q : Int) + 2).toNat]'h).toNat : Nat) : Int) = (x2 : Int) from fun h => by
            have e : (s[((q : Int) + 2).toNat]'h) = s[q + 2] := by congr 1
            rw [e, b2, IntKind.wrap_i64]
            omega)
          have HV3 := hide (show ∀ h : ((q : Int) + 3).toNat < s.size, IntKind.i64.wrap (((s[((q : Int) + 3).toNat]'h).toNat : Nat) : Int) = (x3 : Int) from fun h => by
            have e : (s[((q : Int) + 3).toNat]'h) = s[q + 3] := by congr 1
            rw [e, b3, IntKind.wrap_i64]
            omega)
          go_wp2_with fail
          go_region_held3 (fun _ => True) (trivial)
            ((refine step_append_lies _ (by rfl) _ _ _ (by rfl) w.heap.size 78 inf _ 4 32 Try.underlying76 hi0 hz0 hz1 hz2 rfl (by omega) u4 i (flatI (progOf s) i) (by rfl) ((HR.out.alloc _).drew)
                ⟨wr.heap.size, 0, none⟩ 1 1 [.int .i64 x0, .int .i64 x2, .int .i64 x3, .int .u32 k] (by rfl) (by rfl) (World.news_of_block (cs := #[.int .i64 x0, .int .i64 x2, .int .i64 x3, .int .u32 k]) (t := 78) (fr := (0, 0)) (by simp only [HV0.out, HV2.out, HV3.out]; exact heap_alloc_new wr _)) (by simp [Value.oneCell'])
                (by omega) (by simp only [maxLen]; omega) (by omega) (by simp; omega) (wr.heap.size + 1) (by simp) ?_; intro gg cap1 w1 hown1 hgrow hat hltt))
          all_goals
            simp only [HV0.out, HV2.out, HV3.out]
            have HB1 := hide (show Below w.heap.size w w1 from (((HB.out.alloc hbs _).drew).grown hgrow (by simp; omega) fun k hk => (HR.out.lt k hk).1))
            have HO1 := hide (show w1.ownsRow w.heap.size 78 4 (.slice (some ⟨gg, 0, none⟩) (i + 1) cap1) (i + 1) (flatI (progOf s) (i + 1)) by rw [flatI, HX.out]; exact hown1)
            have HQ1 := hide (show q + 8 = 8 * (i + 1) by have := HQ.out; omega)
            clear hown1 hgrow hat hltt
            go_wp2
            go_round
            case rel => exact ⟨i + 1, q + 8, by omega, by go_num, by omega, HQ1, HO1, HB1⟩
            case measure => simp [intOf]; omega
    · obtain rfl : i = n := by omega
      obtain rfl : q = s.size := by have := HQ.out; have := hn.out; omega
      obtain ⟨oa, cap, rfl, hP⟩ := prog_owned HR.out (fun j _ => insAt_ok s _)
      have HP := hide hP
      have HC := rfault_any oa i cap (by omega) (progOf s) wr hP
      clear hP
      by_cases hc : checkR i (progOf s) = 0
      · rw [hc] at HC
        have HY := fun w' h => rbytes_ok oa i cap (progOf s) w' h hc
        by_cases he : strB (progB (progOf s) i) = s
        · rw [he] at HY
          go_wp2_with fail
          refine HC.mono ?_
          rintro e w2 ⟨rfl, hb2⟩
          replace hb2 := hide hb2
          go_wp2_with fail
          refine (HY _ (HP.out.on hb2.out)).mono ?_
          rintro e w3 ⟨rfl, hb3⟩
          replace hb3 := hide (below_next hb2.out hb3)
          go_wp2
          go_ret2
          exact ⟨below_next HB.out hb3.out, .inl ⟨hc, he, oa, cap, rfl, HP.out.on hb3.out⟩⟩
        · have hne : ((strB (progB (progOf s) i)).toList == s.toList) = false := by
            rw [Lib.toList_data, Lib.toList_data, beq_eq_false_iff_ne]
            intro h
            exact he (congrArg ByteArray.mk (Array.toList_inj.1 h))
          obtain ⟨t, ht⟩ : ∃ t, t = strB (progB (progOf s) i) := ⟨_, rfl⟩
          rw [← ht] at HY hne
          have HN := hide he
          have HCC := hide hc
          clear he ht hc
          go_wp2_with fail
          refine HC.mono ?_
          rintro e w2 ⟨rfl, hb2⟩
          replace hb2 := hide hb2
          go_wp2_with fail
          refine (HY _ (HP.out.on hb2.out)).mono ?_
          rintro e w3 ⟨rfl, hb3⟩
          replace hb3 := hide (below_next hb2.out hb3)
          go_wp2
          go_ret2
          exact ⟨below_next HB.out hb3.out, .inr ⟨fun h => HN.out h.2, rfl⟩⟩
      · have hpos : (0 : Int) < (checkR i (progOf s) : Int) := by omega
        obtain ⟨f, hf⟩ : ∃ f, f = checkR i (progOf s) := ⟨_, rfl⟩
        rw [← hf] at HC hpos
        have HCC := hide hc
        clear hf hc
        go_wp2_with fail
        refine HC.mono ?_
        rintro e w2 ⟨rfl, hb2⟩
        replace hb2 := hide hb2
        go_wp2
        go_ret2
        exact ⟨below_next HB.out hb2.out, .inr ⟨fun h => HCC.out h.1, rfl⟩⟩
end Go.Proofs.Ytlpcjonklfnejaa
