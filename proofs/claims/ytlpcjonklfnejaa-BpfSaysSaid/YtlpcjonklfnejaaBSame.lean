/- SameProgram; the document's ProgramBytes. -/
import Derived.Test.YtlpcjonklfnejaaBBytes2
namespace Go.Proofs.Ytlpcjonklfnejaa
open Go.RowKit

def sameIns (x y : IN) : Bool := x.op == y.op && x.jt == y.jt && x.jf == y.jf && x.k == y.k
/-- Are the first i alike? -/
def sameTo (L M : Nat → IN) (i : Nat) : Bool := (List.range i).all fun j => sameIns (L j) (M j)
theorem sameTo_succ (L M : Nat → IN) (i : Nat) : sameTo L M (i + 1) = (sameTo L M i && sameIns (L i) (M i)) := by
  unfold sameTo
  rw [List.range_succ, List.all_append]
  simp
theorem sameTo_not {L M : Nat → IN} {i n : Nat} (h : sameIns (L i) (M i) = false) (hi : i < n) : sameTo L M n = false := by
  unfold sameTo
  rw [List.all_eq_false]
  exact ⟨i, List.mem_range.2 hi, by rw [h]; decide⟩

theorem sameProg_len (oa ob : Option Addr) (n ca m cb : Nat) (h : n ≠ m) (w : World) :
    Calls Try.prog 49 #[.slice oa n ca, .slice ob m cb] w fun e w' => e = .returned (.bool false) ∧ w' = w := by
  have d : ((n : Int) != (m : Int)) = true := by rw [bne_iff_ne]; omega
  go_enter Try.func49, Try.ntmps49
  go_wp2
  go_ret
  exact ⟨rfl, rfl⟩
set_option maxHeartbeats 2000000 in
theorem sameProg_any (oa ob : Option Addr) (n ca cb : Nat) (hn : n ≤ 9223372036854775807) (L M : Nat → IN) (w : World) (hL : IsProg oa n L w) (hM : IsProg ob n M w) :
    Calls Try.prog 49 #[.slice oa n ca, .slice ob n cb] w fun e w' => e = .returned (.bool (sameTo L M n)) ∧ ∃ k, w' = w.drewN k := by
  have d : ((n : Int) != (n : Int)) = false := by simp
  have HL := hide hL
  have HM := hide hM
  clear hL hM
  go_enter Try.func49, Try.ntmps49
  go_wp2
  go_loopw [5] (fun I wr => ∃ i k : Nat, i ≤ n ∧ I = .int .i64 i ∧ wr = w.drewN k ∧ Hid (sameTo L M i = true)) (fun I _ => n - (intOf I).toNat)
  case atStart => exact ⟨0, 0, by omega, rfl, rfl, hide rfl⟩
  case round =>
    obtain ⟨i, k, hi, rfl, rfl, HS⟩ := hrel
    by_cases hlt : i < n
    · obtain ⟨b, off, rfl, hb, hA⟩ := HL.out.lie (by omega)
      obtain ⟨b', off', rfl, hb', hA'⟩ := HM.out.lie (by omega)
      obtain ⟨c0, c1, c2, c3, _⟩ := hA i hlt
      obtain ⟨e0, e1, e2, e3, _⟩ := hA' i hlt
      have HQ := hide (show sameTo L M (i + 1) = sameIns (L i) (M i) by rw [sameTo_succ, HS.out, Bool.true_and])
      have HN := hide (fun h : sameIns (L i) (M i) = false => sameTo_not (n := n) h hlt)
      obtain ⟨x, hx⟩ : ∃ x, x = L i := ⟨_, rfl⟩
      obtain ⟨y, hy⟩ : ∃ y, y = M i := ⟨_, rfl⟩
      rw [← hx] at c0 c1 c2 c3 HQ HN
      rw [← hy] at e0 e1 e2 e3 HQ HN
      clear hx hy hA hA'
      obtain ⟨op, jt, jf, q⟩ := x
      obtain ⟨op', jt', jf', q'⟩ := y
      simp only at c0 c1 c2 c3 e0 e1 e2 e3
      by_cases z0 : op = op'
      case neg =>
        have HZ := hide (HN.out (by simp [sameIns, z0]))
        clear HN HQ
        go_wp2_with fail
        go_region
        go_wp2
        go_ret
        exact ⟨by rw [HZ.out]; rfl, _, rfl⟩
      subst z0
      by_cases z1 : jt = jt'
      case neg =>
        have HZ := hide (HN.out (by simp [sameIns, z1]))
        clear HN HQ
        go_wp2_with fail
        go_region
        go_wp2
        go_ret
        exact ⟨by rw [HZ.out]; rfl, _, rfl⟩
      subst z1
      by_cases z2 : jf = jf'
      case neg =>
        have HZ := hide (HN.out (by simp [sameIns, z2]))
        clear HN HQ
        go_wp2_with fail
        go_region
        go_wp2
        go_ret
        exact ⟨by rw [HZ.out]; rfl, _, rfl⟩
      subst z2
      by_cases z3 : q = q'
      case neg =>
        have HZ := hide (HN.out (by simp [sameIns, z3]))
        have z4 : ¬ (q : Int) = (q' : Int) := by omega
        clear HN HQ
        go_wp2_with fail
        go_region
        go_wp2
        go_ret
        exact ⟨by rw [HZ.out]; rfl, _, rfl⟩
      subst z3
      have HZ := hide (show sameTo L M (i + 1) = true by rw [HQ.out]; simp [sameIns])
      clear HN HQ
      go_wp2_with fail
      go_region
      go_wp2
      go_round
      case rel => exact ⟨i + 1, _, by omega, by go_num, rfl, HZ⟩
      case measure => simp [intOf]; omega
    · obtain rfl : i = n := by omega
      go_wp2
      go_ret
      exact ⟨by rw [HS.out]; rfl, _, rfl⟩

theorem drew_owns {w : World} {base n k : Nat} {v : Value} {xs : List Value} (h : w.ownsRow base 5 1 v n xs) : (w.drewN k).ownsRow base 5 1 v n xs := h
set_option maxRecDepth 100000 in
set_option maxHeartbeats 4000000 in
/-- The document's bytes. -/
theorem rbytes_ok (oa : Option Addr) (n cap : Nat) (L : Nat → IN) (w : World) (h : IsProg oa n L w) (hf : checkR n L = 0) :
    Calls Try.prog 52 #[.slice oa n cap] w fun e w' => e = .returned (.string (strB (progB L n))) ∧ Below w.heap.size w w' := by
  have HF := hide (fit_of hf)
  have hpos := HF.out.pos
  have hmost := HF.out.most
  obtain ⟨b, off, rfl, hb, hA0⟩ := h.lie hpos
  have HA := hide hA0
  have HS := hide (show ∀ j, j < n → Small (L j) from fun j hj => small_of (HF.out.each j hj) (hA0 j hj).ok)
  obtain ⟨inf, hi0, hz0, hz1, hz2⟩ := info_byte
  clear h hA0 hf
  go_enter Try.func52, Try.ntmps52
  go_wp2
  go_loopw [3, 4] (fun V I wr => ∃ i : Nat, i ≤ n ∧ I = .int .i64 i ∧ Hid (wr.ownsRow w.heap.size 5 1 V (8 * i) (u8s (progB L i))) ∧ Hid (Below w.heap.size w wr)) (fun _ I _ => n - (intOf I).toNat)
  case atStart => exact ⟨0, by omega, rfl, hide (World.ownsRow_nil _ _ _ _), hide (Below.refl _ _)⟩
  case round =>
    obtain ⟨i, hi, rfl, HR, HB⟩ := hrel
    by_cases hlt : i < n
    · have hI := (HA.out i hlt).on fun j => (bcell HB.out).1 b j hb
      have HQ := hide (show progB L (i + 1) = progB L i ++ insB (L i) from rfl)
      have hsm := HS.out i hlt
      have hbs := HB.out.size
      have lb : b < wr.heap.size := by omega
      have hne : u3.ownBlock ≠ some b := fun e => by have := (HR.out.lt b e).1; omega
      obtain ⟨x, hx⟩ : ∃ x, x = L i := ⟨_, rfl⟩
      rw [← hx] at hI HQ hsm
      clear hx
      obtain ⟨c0, c1, c2, c3, _⟩ := hI
      obtain ⟨op, jt, jf, k⟩ := x
      obtain ⟨o1, o2, t1, t2, f1, f2, k2⟩ := hsm
      simp only at c0 c1 c2 c3 o1 o2 t1 t2 f1 f2 k2
      obtain ⟨op', rfl⟩ : ∃ m : Nat, op = m := ⟨op.toNat, by omega⟩
      obtain ⟨jt', rfl⟩ : ∃ m : Nat, jt = m := ⟨jt.toNat, by omega⟩
      obtain ⟨jf', rfl⟩ : ∃ m : Nat, jf = m := ⟨jf.toNat, by omega⟩
      have hi0' : (0 : Int) ≤ (i : Int) := Int.natCast_nonneg _
      have hi1 : (i : Int) < (n : Int) := by omega
      have HWO := hide (show IntKind.u8.wrap (op' : Int) = op' by rw [IntKind.wrap_u8]; omega)
      have HWT := hide (show IntKind.u8.wrap (jt' : Int) = jt' by rw [IntKind.wrap_u8]; omega)
      have HWF := hide (show IntKind.u8.wrap (jf' : Int) = jf' by rw [IntKind.wrap_u8]; omega)
      go_wp2_with fail
      go_region_held3 (fun w' => w'.cell? ⟨b, off + i * 4, none⟩ = some (.int .i64 op') ∧ w'.cell? ⟨b, off + i * 4 + 1, none⟩ = some (.int .i64 jt') ∧ w'.cell? ⟨b, off + i * 4 + 2, none⟩ = some (.int .i64 jf') ∧ w'.cell? ⟨b, off + i * 4 + 3, none⟩ = some (.int .u32 k))
        (first
          | go_keep
          | (go_split_ands
             refine ⟨?_, ?_, ?_, ?_⟩
             · (rw [hgrow.cell_far _ (by simp; omega) (Ne.symm hne)]; assumption)
             · (rw [hgrow.cell_far _ (by simp; omega) (Ne.symm hne)]; assumption)
             · (rw [hgrow.cell_far _ (by simp; omega) (Ne.symm hne)]; assumption)
             · (rw [hgrow.cell_far _ (by simp; omega) (Ne.symm hne)]; assumption)))
        ((refine step_append_lies _ (by rfl) _ _ _ (by rfl) w.heap.size 5 inf _ 1 1 Try.underlying120 hi0 hz0 hz1 hz2 rfl (by omega) u3 (8 * i) (u8s (progB L i)) (by rfl) ((HR.out.alloc _).drew)
            ⟨wr.heap.size, 0, none⟩ 4 4 (u8s [op', 0, jt', jf']) (by rfl) (by rfl) (World.news_of_block (cs := #[.int .u8 op', .int .u8 0, .int .u8 jt', .int .u8 jf']) (t := 5) (fr := (0, 0)) (by rw [HWO.out, HWT.out, HWF.out]; exact heap_alloc_new wr _)) (by simp [u8s, Value.oneCell'])
            (by omega) (by simp only [maxLen]; omega) (by omega) (by simp; omega) (wr.heap.size + 1) (by simp) ?_; intro gg cap1 w1 hown1 hgrow hat hltt))
      simp only [HWO.out, HWT.out, HWF.out]
      have HB1 := hide (show Below w.heap.size w w1 from (((HB.out.alloc hbs _).drew).grown hgrow (by simp; omega) fun k hk => (HR.out.lt k hk).1))
      have c3' : w1.cell? ⟨b, off + i * 4 + 3, none⟩ = some (.int .u32 k) := (bcell HB1.out).1 b _ hb |>.trans (((bcell HB.out).1 b _ hb).symm.trans c3)
      have HO1 := hide (show w1.ownsRow w.heap.size 5 1 (.slice (some ⟨gg, 0, none⟩) (8 * i + 4) cap1) (8 * i + 4) (u8s (progB L i ++ [op', 0, jt', jf'])) by rw [u8s_append]; exact hown1)
      clear hown1 hgrow hat hltt c0 c1 c2 c3
      go_wp2
      obtain ⟨wo, hwo⟩ : ∃ wo : World, wo = wr := ⟨_, rfl⟩
      clear hwo wo
      go_loopw [3, 5, 6] (fun V K J wr => ∃ j : Nat, j ≤ 4 ∧ J = .int .i64 j ∧ K = .int .u32 ((k / 256 ^ j : Nat) : Int) ∧ Hid (wr.ownsRow w.heap.size 5 1 V (8 * i + 4 + j) (u8s (progB L i ++ [op', 0, jt', jf'] ++ (kb k).take j))) ∧ Hid (Below w.heap.size w wr)) (fun _ _ J _ => 4 - (intOf J).toNat)
      case atStart => exact ⟨0, by omega, rfl, by simp, hide (by rw [List.take_zero, List.append_nil]; exact HO1.out), HB1⟩
      case round =>
        obtain ⟨j, hj, rfl, rfl, HR2, HB2⟩ := hrel
        have hbs2 := HB2.out.size
        have hcase : j = 0 ∨ j = 1 ∨ j = 2 ∨ j = 3 ∨ j = 4 := by omega
        rcases hcase with rfl | rfl | rfl | rfl | rfl
        · go_wp2_with (at_builtin; (refine wpList_append_u8 rfl _ _ rfl w.heap.size u3 (8 * i + 4 + 0) (progB L i ++ [op', 0, jt', jf'] ++ (kb k).take 0) ?_ ?_ wr.heap.size 1 [k / 256 ^ 0 % 256] ?_ ?_ ?_ ?_ ?_ ?_ ?_ ?_ ?_); (· rfl); (· exact HR2.out.alloc _); (· exact #[.int .u8 ((k / 256 ^ 0 % 256 : Nat) : Int)]); (· rfl); (· (refine (heap_alloc_new _ _).trans ?_; simp)); (· rfl); (· rfl); (· omega); (· omega); (· simp; omega); intro v2 w2 ho2 hg2)
          have HB3 := hide ((HB2.out.alloc hbs2 _).grown hg2 (by simp; omega) fun k hk => (HR2.out.lt k hk).1)
          have HO2 := hide (show w2.ownsRow w.heap.size 5 1 v2 (8 * i + 4 + (0 + 1)) (u8s (progB L i ++ [op', 0, jt', jf'] ++ (kb k).take (0 + 1))) by rw [kb_take k 0 (by omega), ← List.append_assoc]; exact ho2)
          clear hg2 ho2
          go_round
          case rel =>
            exact ⟨0 + 1, by omega, by go_num, by first | rfl | (simp only [Value.int.injEq, true_and]; omega), HO2, HB3⟩
          case measure => simp [intOf]
        · go_wp2_with (at_builtin; (refine wpList_append_u8 rfl _ _ rfl w.heap.size u3 (8 * i + 4 + 1) (progB L i ++ [op', 0, jt', jf'] ++ (kb k).take 1) ?_ ?_ wr.heap.size 1 [k / 256 ^ 1 % 256] ?_ ?_ ?_ ?_ ?_ ?_ ?_ ?_ ?_); (· rfl); (· exact HR2.out.alloc _); (· exact #[.int .u8 ((k / 256 ^ 1 % 256 : Nat) : Int)]); (· rfl); (· (refine (heap_alloc_new _ _).trans ?_; simp)); (· rfl); (· rfl); (· omega); (· omega); (· simp; omega); intro v2 w2 ho2 hg2)
          have HB3 := hide ((HB2.out.alloc hbs2 _).grown hg2 (by simp; omega) fun k hk => (HR2.out.lt k hk).1)
          have HO2 := hide (show w2.ownsRow w.heap.size 5 1 v2 (8 * i + 4 + (1 + 1)) (u8s (progB L i ++ [op', 0, jt', jf'] ++ (kb k).take (1 + 1))) by rw [kb_take k 1 (by omega), ← List.append_assoc]; exact ho2)
          clear hg2 ho2
          go_round
          case rel =>
            exact ⟨1 + 1, by omega, by go_num, by first | rfl | (simp only [Value.int.injEq, true_and]; omega), HO2, HB3⟩
          case measure => simp [intOf]
        · go_wp2_with (at_builtin; (refine wpList_append_u8 rfl _ _ rfl w.heap.size u3 (8 * i + 4 + 2) (progB L i ++ [op', 0, jt', jf'] ++ (kb k).take 2) ?_ ?_ wr.heap.size 1 [k / 256 ^ 2 % 256] ?_ ?_ ?_ ?_ ?_ ?_ ?_ ?_ ?_); (· rfl); (· exact HR2.out.alloc _); (· exact #[.int .u8 ((k / 256 ^ 2 % 256 : Nat) : Int)]); (· rfl); (· (refine (heap_alloc_new _ _).trans ?_; simp)); (· rfl); (· rfl); (· omega); (· omega); (· simp; omega); intro v2 w2 ho2 hg2)
          have HB3 := hide ((HB2.out.alloc hbs2 _).grown hg2 (by simp; omega) fun k hk => (HR2.out.lt k hk).1)
          have HO2 := hide (show w2.ownsRow w.heap.size 5 1 v2 (8 * i + 4 + (2 + 1)) (u8s (progB L i ++ [op', 0, jt', jf'] ++ (kb k).take (2 + 1))) by rw [kb_take k 2 (by omega), ← List.append_assoc]; exact ho2)
          clear hg2 ho2
          go_round
          case rel =>
            exact ⟨2 + 1, by omega, by go_num, by first | rfl | (simp only [Value.int.injEq, true_and]; omega), HO2, HB3⟩
          case measure => simp [intOf]
        · go_wp2_with (at_builtin; (refine wpList_append_u8 rfl _ _ rfl w.heap.size u3 (8 * i + 4 + 3) (progB L i ++ [op', 0, jt', jf'] ++ (kb k).take 3) ?_ ?_ wr.heap.size 1 [k / 256 ^ 3 % 256] ?_ ?_ ?_ ?_ ?_ ?_ ?_ ?_ ?_); (· rfl); (· exact HR2.out.alloc _); (· exact #[.int .u8 ((k / 256 ^ 3 % 256 : Nat) : Int)]); (· rfl); (· (refine (heap_alloc_new _ _).trans ?_; simp)); (· rfl); (· rfl); (· omega); (· omega); (· simp; omega); intro v2 w2 ho2 hg2)
          have HB3 := hide ((HB2.out.alloc hbs2 _).grown hg2 (by simp; omega) fun k hk => (HR2.out.lt k hk).1)
          have HO2 := hide (show w2.ownsRow w.heap.size 5 1 v2 (8 * i + 4 + (3 + 1)) (u8s (progB L i ++ [op', 0, jt', jf'] ++ (kb k).take (3 + 1))) by rw [kb_take k 3 (by omega), ← List.append_assoc]; exact ho2)
          clear hg2 ho2
          go_round
          case rel =>
            exact ⟨3 + 1, by omega, by go_num, by first | rfl | (simp only [Value.int.injEq, true_and]; omega), HO2, HB3⟩
          case measure => simp [intOf]
        · have HO3 := hide (show wr.ownsRow w.heap.size 5 1 u3 (8 * (i + 1)) (u8s (progB L (i + 1))) by
            have h := HR2.out
            rw [HQ.out, show insB ⟨(op' : Int), (jt' : Int), (jf' : Int), k⟩ = [op', 0, jt', jf'] ++ kb k from rfl, ← List.append_assoc]
            exact h)
          go_wp2
          go_round
          case rel => exact ⟨i + 1, by omega, by go_num, HO3, HB2⟩
          case measure => simp [intOf]; omega
    · obtain rfl : i = n := by omega
      have hcv := conv_u8 HR.out (progB_lt HS.out) (by omega)
      go_wp2
      go_ret
      exact ⟨rfl, HB.out⟩
end Go.Proofs.Ytlpcjonklfnejaa
