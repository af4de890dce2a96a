/- The document's Free, Sealed, Get, Text. -/
import Derived.Test.YtlpcjonklfnejaaMRef
import Derived.Test.YtlpcjonklfnejaaMText
import Derived.Test.YtlpcjonklfnejaaBBytes2
namespace Go.Proofs.Ytlpcjonklfnejaa
open Go.RowKit
attribute [local go_sem] RW_drew RW_drewN RW_fro

theorem IsR.lt {g : Nat} {r : RS} {W : World} (h : IsR g r W) : g < W.heap.size := (Array.getElem?_eq_some_iff.1 h).1
theorem IsR.on {g : Nat} {r : RS} {W V : World} (h : IsR g r W) (hb : Below W.heap.size W V) : IsR g r V := (hb.block g h.lt).trans h

theorem rfree_none (B : RB) (r : RS) (k a : Nat) (ha : a < 18446744073709551616) (hno : ¬ (a % 64 = 0 ∧ 8 ≤ a / 64 ∧ a / 64 ≤ 11 ∧ r.is (a / 64) ≠ 0)) :
    Calls Try.prog 34 #[.pointer (some ⟨B.g, 0, none⟩), .int .u64 a] (RW B r k) fun e w' => e = .returned (.int .i64 8) ∧ w' = RW B r k := by
  obtain ⟨q, hq⟩ : ∃ q : Nat, q = a / 64 := ⟨_, rfl⟩
  obtain ⟨t, ht⟩ : ∃ t : Nat, t = a % 64 := ⟨_, rfl⟩
  have hw : IntKind.u64.wrap ((a : Int) / 64) = (q : Int) := by rw [IntKind.wrap_u64, hq]; omega
  have hv : IntKind.u64.wrap ((a : Int) % 64) = (t : Int) := by rw [IntKind.wrap_u64, ht]; omega
  have hv2 : (a : Int) % 64 = (t : Int) := by omega
  have hw2 : (a : Int) / 64 = (q : Int) := by omega
  rw [← hq, ← ht] at hno
  have hq2 : q < 288230376151711744 := by omega
  clear hq ht ha
  by_cases h1 : t = 0
  · by_cases h2 : 8 ≤ q
    · by_cases h3 : q ≤ 11
      · have c1 := RW_is B r k q (by omega)
        have h4 : r.is q = 0 := Classical.byContradiction fun h => hno ⟨h1, h2, h3, h⟩
        rw [h4] at c1
        subst h1
        go_enter Try.func34, Try.ntmps34
        go_wp2
        go_ret
        exact ⟨rfl, rfl⟩
      · have h5 : (11 : Int) < (q : Int) := by omega
        have h6 : ¬ (q : Int) < 8 := by omega
        subst h1
        clear hno
        go_enter Try.func34, Try.ntmps34
        go_wp2
        go_ret
        exact ⟨rfl, rfl⟩
    · have h5 : (q : Int) < 8 := by omega
      subst h1
      clear hno
      go_enter Try.func34, Try.ntmps34
      go_wp2
      go_ret
      exact ⟨rfl, rfl⟩
  · have h5 : (0 : Int) < (t : Int) := by omega
    clear hno
    go_enter Try.func34, Try.ntmps34
    go_wp2
    go_ret
    exact ⟨rfl, rfl⟩
theorem rfree_ok (B : RB) (r : RS) (k q : Nat) (h8 : 8 ≤ q) (h11 : q ≤ 11) (h0 : r.is q ≠ 0) :
    Calls Try.prog 34 #[.pointer (some ⟨B.g, 0, none⟩), .int .u64 ((q * 64 : Nat) : Int)] (RW B r k) fun e w' => e = .returned (.int .i64 0) ∧ w' = RW B (setIs r q 0) k := by
  have c1 := RW_is B r k q (by omega)
  have c2 := RW_setIs B r k q 0 (by omega)
  have d : ((r.is q : Int) == 0) = false := by rw [beq_eq_false_iff_ne]; omega
  obtain ⟨a, ha⟩ : ∃ a : Nat, a = q * 64 := ⟨_, rfl⟩
  rw [← ha]
  have hv2 : (a : Int) % 64 = 0 := by omega
  have hw2 : (a : Int) / 64 = (q : Int) := by omega
  have ha2 : a < 1000 := by omega
  clear ha
  go_enter Try.func34, Try.ntmps34
  go_wp2
  go_ret
  exact ⟨rfl, c2⟩

/-- How many of the pages from 8 on, j of them looked at, are sealed. -/
def cntR (r : RS) : Nat → Nat
  | 0 => 0
  | j + 1 => cntR r j + if r.is (8 + j) = 0 then 0 else 1
theorem cntR_le (r : RS) : ∀ j, cntR r j ≤ j
  | 0 => Nat.le_refl _
  | j + 1 => by have := cntR_le r j; rw [cntR]; split <;> omega
theorem rsealed_any (B : RB) (r : RS) (k : Nat) : Calls Try.prog 63 #[.pointer (some ⟨B.g, 0, none⟩)] (RW B r k) fun e w' => e = .returned (.int .i64 (cntR r 4)) ∧ w' = RW B r k := by
  go_enter Try.func63, Try.ntmps63
  go_wp2
  go_loopw [3, 4] (fun K N w' => ∃ n : Nat, 8 ≤ n ∧ n ≤ 12 ∧ K = .int .i64 (cntR r (n - 8)) ∧ N = .int .i64 n ∧ w' = RW B r k) (fun _ N _ => 12 - (intOf N).toNat)
  case atStart => exact ⟨8, by omega, by omega, rfl, rfl, rfl⟩
  case round =>
    obtain ⟨n, h8, h12, rfl, rfl, rfl⟩ := hrel
    have hc := cntR_le r (n - 8)
    by_cases hlt : n < 12
    · have c1 := RW_is B r k n hlt
      have HC := hide (show cntR r (n + 1 - 8) = cntR r (n - 8) + if r.is n = 0 then 0 else 1 by rw [show n + 1 - 8 = (n - 8) + 1 by omega, cntR, show 8 + (n - 8) = n by omega])
      by_cases h0 : r.is n = 0
      · rw [h0] at c1
        rw [if_pos h0] at HC
        clear h0
        go_wp2
        go_round
        case rel => exact ⟨n + 1, by omega, by omega, by rw [HC.out]; rfl, by go_num, trivial⟩
        case measure => simp [intOf]; omega
      · have h1 : (0 : Int) < (r.is n : Int) := by omega
        rw [if_neg h0] at HC
        go_wp2
        go_round
        case rel => exact ⟨n + 1, by omega, by omega, by rw [HC.out]; rfl, by go_num, trivial⟩
        case measure => simp [intOf]; omega
    · obtain rfl : n = 12 := by omega
      go_wp2
      go_ret
      exact ⟨rfl, rfl⟩

theorem rbyte_isR {g : Nat} {r : RS} {W : World} (h : IsR g r W) (a : Nat) (ha : a < 18446744073709551616) :
    Calls Try.prog 36 #[.pointer (some ⟨g, 0, none⟩), .int .u64 a] W fun e w' => e = .returned (rbyteV (rpeek r a)) ∧ w' = W := by
  have hb := rbyte_any ⟨W, g, r, h⟩ r 0 a ha
  rw [← RW_of h] at hb
  exact hb

/-- n bytes from a on, by what may be read. -/
def getP (p : Nat → Option Nat) (a : Nat) : Nat → Option (List Nat)
  | 0 => some []
  | n + 1 => (getP p a n).bind fun l => (p (addrI a n)).map fun x => l ++ [x]
theorem getR_eq (m : MS) (a : Nat) : ∀ n, getR m a n = getP (peek m) a n
  | 0 => rfl
  | n + 1 => by rw [getR, getP, getR_eq m a n]
theorem getP_none {p : Nat → Option Nat} {a i : Nat} (h : getP p a i = none) : ∀ n, i ≤ n → getP p a n = none
  | 0, hn => by rw [show i = 0 by omega] at h; exact h
  | n + 1, hn => by
    by_cases he : i = n + 1
    · rw [← he]; exact h
    · rw [getP, getP_none h n (by omega)]; rfl
def rgetV : Option (List Nat) → Value
  | none => .tuple #[.string ⟨#[]⟩, .int .i64 5]
  | some l => .tuple #[.string ⟨(bytesOf l).toArray⟩, .int .i64 0]
theorem conv_nil (w : World) : (convert 120 9 (.slice none 0 0)).run Try.prog w = .ok (.string ⟨(bytesOf []).toArray⟩) w := by
  kernel_rfl
theorem conv_row8 {w : World} {base n : Nat} {v : Value} {l : List Nat} (hown : w.ownsRow base 5 1 v n (u8s l)) (hl : ∀ x ∈ l, x < 256) : (convert 120 9 v).run Try.prog w = .ok (.string ⟨(bytesOf l).toArray⟩) w := by
  by_cases h0 : 0 < n
  · exact conv_u8 hown hl h0
  · obtain rfl : n = 0 := by omega
    have hl0 : l = [] := by
      have h := hown.1
      rw [u8s_len] at h
      exact List.eq_nil_of_length_eq_zero (by omega)
    subst hl0
    rcases Go.Joins.ownsRow_forms hown with ⟨rfl, _⟩ | ⟨g, cap, rfl⟩
    · exact conv_nil w
    · have h := run_convert_bytes_back (P := Try.prog) w 120 9 5 ⟨g, 0, none⟩ cap [] Try.underlying120 Try.underlying5 Try.underlying9 fun j hj => by cases hj
      exact h

theorem rget_bad {g : Nat} {r : RS} {W : World} (_hM : IsR g r W) (a n : Int) (hn : n < 0 ∨ 512 < n) :
    Calls Try.prog 28 #[.pointer (some ⟨g, 0, none⟩), .int .u64 a, .int .i64 n] W fun e w' => e = .returned (.tuple #[.string ⟨#[]⟩, .int .i64 1]) ∧ Below W.heap.size W w' := by
  clear _hM
  by_cases h0 : n < 0
  · go_enter Try.func28, Try.ntmps28
    go_wp2
    go_ret2
    exact ⟨rfl, Below.refl _ _⟩
  · go_enter Try.func28, Try.ntmps28
    go_wp2
    go_ret2
    exact ⟨rfl, Below.refl _ _⟩

set_option maxRecDepth 20000 in
theorem rget_any {g : Nat} {r : RS} {W : World} (hM : IsR g r W) (a n : Nat) (_ha : a < 18446744073709551616) (hn : n ≤ 512) (hlt : ∀ x, r.by' x < 256) :
    Calls Try.prog 28 #[.pointer (some ⟨g, 0, none⟩), .int .u64 a, .int .i64 n] W fun e w' => e = .returned (rgetV (getP (rpeek r) a n)) ∧ Below W.heap.size W w' := by
  have HLT := hide hlt
  have HM := hide hM
  clear _ha hlt hM
  obtain ⟨ai, hai⟩ : ∃ x : Int, x = (a : Int) := ⟨_, rfl⟩
  rw [← hai]
  have HAI := hide hai
  clear hai
  go_enter Try.func28, Try.ntmps28
  go_wp2
  go_loopw [8, 9] (fun V I wr => ∃ (i : Nat) (l : List Nat), i ≤ n ∧ I = .int .i64 i ∧ Hid (wr.ownsRow W.heap.size 5 1 V i (u8s l)) ∧ Hid (Below W.heap.size W wr) ∧ Hid (getP (rpeek r) a i = some l ∧ ∀ x ∈ l, x < 256)) (fun _ I _ => n - (intOf I).toNat)
  case atStart => exact ⟨0, [], by omega, rfl, hide (World.ownsRow_nil _ _ _ _), hide (Below.refl _ _), hide ⟨rfl, fun x hx => by cases hx⟩⟩
  case round =>
    obtain ⟨i, l, hi, rfl, HR, HB, HG⟩ := hrel
    by_cases hlt : i < n
    · obtain ⟨x, hx⟩ : ∃ x : Int, x = ((addrI a i : Nat) : Int) := ⟨_, rfl⟩
      have hw : IntKind.u64.wrap (ai + i) = x := by
        rw [IntKind.wrap_u64, HAI.out, hx]
        unfold addrI
        omega
      have HC := rbyte_isR (HM.out.on HB.out) (addrI a i) (Nat.mod_lt _ (by decide))
      rw [← hx] at HC
      have HG2 := hide (show getP (rpeek r) a (i + 1) = (rpeek r (addrI a i)).map fun x => l ++ [x] by rw [getP, HG.out.1]; rfl)
      have hbs := HB.out.size
      clear hx
      cases hp : rpeek r (addrI a i) with
      | none =>
        have HV := hide (show getP (rpeek r) a n = none from getP_none (by rw [HG2.out, hp]; rfl) n (show i + 1 ≤ n by omega))
        rw [hp] at HC
        simp only [rbyteV] at HC
        go_wp2_with (go_at_call 36; refine HC.mono ?_; rintro e w' ⟨rfl, hww⟩; rw [hww]; clear hww w')
        go_ret2
        exact ⟨by rw [HV.out]; rfl, HB.out⟩
      | some y =>
        have hy : y < 256 := by
          unfold rpeek at hp
          split at hp
          · rw [← Option.some.inj hp]; exact HLT.out _
          · cases hp
        rw [hp] at HC HG2
        simp only [rbyteV] at HC
        go_wp2_with (first
          | (go_at_call 36; refine HC.mono ?_; rintro e w' ⟨rfl, hww⟩; rw [hww]; clear hww w')
          | (at_builtin; (refine wpList_append_u8 rfl _ _ rfl W.heap.size u8 i l ?_ ?_ wr.heap.size 1 [y] ?_ ?_ ?_ ?_ ?_ ?_ ?_ ?_ ?_); (· rfl); (· exact HR.out.alloc _); (· exact #[.int .u8 (y : Int)]); (· rfl); (· exact heap_alloc_new _ _); (· rfl); (· rfl); (· omega); (· omega); (· simp; omega); intro v2 w2 ho2 hg2))
        have HB2 := hide ((HB.out.alloc hbs _).grown hg2 (by simp; omega) fun k hk => (HR.out.lt k hk).1)
        have HO2 := hide ho2
        have HN := hide (And.intro HG2.out (show ∀ x ∈ l ++ [y], x < 256 from fun x hx => by
          rcases List.mem_append.1 hx with h | h
          · exact HG.out.2 x h
          · rw [List.mem_singleton.1 h]; exact hy))
        clear hg2 ho2
        go_round
        case rel => exact ⟨i + 1, l ++ [y], by omega, by go_num, HO2, HB2, HN⟩
        case measure => simp [intOf]; omega
    · obtain rfl : i = n := by omega
      have hcv := conv_row8 HR.out HG.out.2
      go_wp2
      go_ret2
      exact ⟨by rw [HG.out.1]; rfl, HB.out⟩
end Go.Proofs.Ytlpcjonklfnejaa
