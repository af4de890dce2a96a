/- The document's Text. -/
import Derived.Test.YtlpcjonklfnejaaMRef2
namespace Go.Proofs.Ytlpcjonklfnejaa
open Go.RowKit

def rtextV (r : Nat × List Nat) : Value := .tuple #[.string ⟨(bytesOf r.2).toArray⟩, .int .i64 r.1]

set_option maxRecDepth 20000 in
theorem rtext_any {g : Nat} {r : RS} {W : World} (hM : IsR g r W) (a : Nat) (_ha : a < 18446744073709551616) (hlt : ∀ x, r.by' x < 256) :
    Calls Try.prog 30 #[.pointer (some ⟨g, 0, none⟩), .int .u64 a] W fun e w' => e = .returned (rtextV (textP (rpeek r) a 41 0 [])) ∧ Below W.heap.size W w' := by
  have HLT := hide hlt
  have HM := hide hM
  clear _ha hlt hM
  obtain ⟨ai, hai⟩ : ∃ x : Int, x = (a : Int) := ⟨_, rfl⟩
  rw [← hai]
  have HAI := hide hai
  clear hai
  obtain ⟨R, hR⟩ : ∃ R, R = textP (rpeek r) a 41 0 [] := ⟨_, rfl⟩
  rw [← hR]
  replace hR := hide hR
  go_enter Try.func30, Try.ntmps30
  go_wp2
  go_loopw [6, 7] (fun V I wr => ∃ (i : Nat) (l : List Nat), i ≤ 40 ∧ I = .int .i64 i ∧ Hid (wr.ownsRow W.heap.size 5 1 V i (u8s l)) ∧ Hid (Below W.heap.size W wr) ∧ Hid (textP (rpeek r) a (41 - i) i l = R ∧ ∀ x ∈ l, x < 256)) (fun _ I _ => 41 - (intOf I).toNat)
  case atStart => exact ⟨0, [], by omega, rfl, hide (World.ownsRow_nil _ _ _ _), hide (Below.refl _ _), hide ⟨hR.out.symm, fun x hx => by cases hx⟩⟩
  case round =>
    obtain ⟨i, l, hi, rfl, HR, HB, HG⟩ := hrel
    obtain ⟨x, hx⟩ : ∃ x : Int, x = ((addrI a i : Nat) : Int) := ⟨_, rfl⟩
    have hw : IntKind.u64.wrap (ai + i) = x := by
      rw [IntKind.wrap_u64, HAI.out, hx]
      unfold addrI
      omega
    have HC := rbyte_isR (HM.out.on HB.out) (addrI a i) (Nat.mod_lt _ (by decide))
    rw [← hx] at HC
    clear hx
    have hbs := HB.out.size
    have hG := HG.out
    rw [show 41 - i = (41 - (i + 1)) + 1 by omega, textP] at hG
    cases hp : rpeek r (addrI a i) with
    | none =>
      rw [hp] at HC hG
      simp only [rbyteV] at HC hG
      replace hG := hide hG
      go_wp2_with (go_at_call 36; refine HC.mono ?_; rintro e w' ⟨rfl, hww⟩; rw [hww]; clear hww w')
      go_ret2
      exact ⟨by rw [← hG.out.1]; rfl, HB.out⟩
    | some y =>
      have hy : y < 256 := by
        unfold rpeek at hp
        split at hp
        · rw [← Option.some.inj hp]; exact HLT.out _
        · cases hp
      rw [hp] at HC hG
      simp only [rbyteV] at HC hG
      by_cases h0 : y = 0
      · subst h0
        rw [if_pos rfl] at hG
        have hcv := conv_row8 HR.out hG.2
        replace hG := hide hG
        clear HG hp
        go_wp2_with (go_at_call 36; refine HC.mono ?_; rintro e w' ⟨rfl, hww⟩; rw [hww]; clear hww w')
        go_ret2
        exact ⟨by rw [← hG.out.1]; rfl, HB.out⟩
      · rw [if_neg h0] at hG
        have d0 : ((y : Int) == 0) = false := by rw [beq_eq_false_iff_ne]; omega
        by_cases h40 : i = 40
        · have HN := hide (show R = (6, []) by
            have h := hG.1
            rw [show 41 - (i + 1) = 0 by omega, textP] at h
            exact h.symm)
          have d40 : ((i : Int) == 40) = true := by rw [beq_iff_eq]; omega
          clear hG HG hp h0 h40
          go_wp2_with (go_at_call 36; refine HC.mono ?_; rintro e w' ⟨rfl, hww⟩; rw [hww]; clear hww w')
          go_ret2
          exact ⟨by rw [HN.out]; rfl, HB.out⟩
        · have d40 : ((i : Int) == 40) = false := by rw [beq_eq_false_iff_ne]; omega
          have HN := hide (And.intro hG.1 (show ∀ x ∈ l ++ [y], x < 256 from fun x hx => by
            rcases List.mem_append.1 hx with h | h
            · exact hG.2 x h
            · rw [List.mem_singleton.1 h]; exact hy))
          clear hG HG hp h0
          go_wp2_with (first
            | (go_at_call 36; refine HC.mono ?_; rintro e w' ⟨rfl, hww⟩; rw [hww]; clear hww w')
            | (at_builtin; (refine wpList_append_u8 rfl _ _ rfl W.heap.size u6 i l ?_ ?_ wr.heap.size 1 [y] ?_ ?_ ?_ ?_ ?_ ?_ ?_ ?_ ?_); (· rfl); (· exact HR.out.alloc _); (· exact #[.int .u8 (y : Int)]); (· rfl); (· exact heap_alloc_new _ _); (· rfl); (· rfl); (· omega); (· omega); (· simp; omega); intro v2 w2 ho2 hg2))
          have HB2 := hide ((HB.out.alloc hbs _).grown hg2 (by simp; omega) fun k hk => (HR.out.lt k hk).1)
          have HO2 := hide ho2
          clear hg2 ho2
          go_round
          case rel => exact ⟨i + 1, l ++ [y], by omega, by go_num, HO2, HB2, HN⟩
          case measure => simp [intOf]; omega
end Go.Proofs.Ytlpcjonklfnejaa
