/- touch: what threads do. -/
import Derived.Test.YtlpcjonklfnejaaMActs
namespace Go.Proofs.Ytlpcjonklfnejaa
open Go.RowKit
attribute [local go_sem] PW_drew PW_drewN PW_fro

/-- Memory as threads may have left it: every byte is one, and no page from 8 on may be written. -/
structure Fine (m : MS) : Prop where
  bytes : bytesOk m
  wt : ∀ n, 8 ≤ n → n < 12 → m.wt n = false

theorem map_any (B : MB) (m : MS) (k : Nat) (n : Int) (b : Bool) :
    Calls Try.prog 21 #[.pointer (some ⟨B.g, 0, none⟩), .int .i64 n, .bool b] (PW B m k) fun e w' => (∃ v, e = .returned v) ∧ ∃ m' k', w' = PW B m' k' ∧ high m m' ∧ (bytesOk m → bytesOk m') := by
  by_cases hn : 0 ≤ n ∧ n < 8
  · have h := map_ok B m k n.toNat (by omega) b
    rw [show ((n.toNat : Nat) : Int) = n by omega] at h
    exact h.mono fun e w' ⟨he, k', hw⟩ => ⟨⟨_, he⟩, _, k', hw, high_map m _ (by omega) b, fun hb => hb⟩
  · exact (map_bad B m k n hn b).mono fun e w' ⟨he, hw⟩ => ⟨⟨_, he⟩, m, k, hw, high_refl m, fun hb => hb⟩
theorem unmap_any (B : MB) (m : MS) (k : Nat) (n : Int) :
    Calls Try.prog 23 #[.pointer (some ⟨B.g, 0, none⟩), .int .i64 n] (PW B m k) fun e w' => (∃ v, e = .returned v) ∧ ∃ m' k', w' = PW B m' k' ∧ high m m' ∧ (bytesOk m → bytesOk m') := by
  by_cases hn : 0 ≤ n ∧ n < 8
  · cases hr : m.rd n.toNat with
    | true =>
      have h := unmap_ok B m k n.toNat (by omega) hr
      rw [show ((n.toNat : Nat) : Int) = n by omega] at h
      exact h.mono fun e w' ⟨he, k', hw⟩ => ⟨⟨_, he⟩, _, k', hw, high_drop m _ (by omega), fun hb => bytesOk_write (m := setWt (setRd m n.toNat false) n.toNat false) hb _ _⟩
    | false =>
      have h := unmap_no B m k n.toNat (by omega) hr
      rw [show ((n.toNat : Nat) : Int) = n by omega] at h
      exact h.mono fun e w' ⟨he, k', hw⟩ => ⟨⟨_, he⟩, m, k', hw, high_refl m, fun hb => hb⟩
  · exact (unmap_bad B m k n hn).mono fun e w' ⟨he, k', hw⟩ => ⟨⟨_, he⟩, m, k', hw, high_refl m, fun hb => hb⟩
theorem put_any (B : MB) (m : MS) (k a : Nat) (s : ByteArray) (ha : a < 18446744073709551616) (hs : s.size < 4294967296) (hw : ∀ n, 8 ≤ n → n < 12 → m.wt n = false) :
    Calls Try.prog 25 #[.pointer (some ⟨B.g, 0, none⟩), .int .u64 a, .string s] (PW B m k) fun e w' => (∃ v, e = .returned v) ∧ ∃ m' k', w' = PW B m' k' ∧ high m m' ∧ (bytesOk m → bytesOk m') := by
  by_cases hg : ∀ i, i < s.size → goodM m (addrI a i)
  · refine (put_ok B m k a s ha hs hg).mono fun e w' ⟨he, k', hw'⟩ => ⟨⟨_, he⟩, _, k', hw', high_put m a _ ha hw fun i hi => hg i (by rw [Lib.size_eq]; exact hi), fun hb => bytesOk_write hb _ _⟩
  · have hbad : ∃ i, i < s.size ∧ ¬ goodM m (addrI a i) := by
      refine Classical.byContradiction fun hc => hg fun i hi => ?_
      exact Classical.byContradiction fun hx => hc ⟨i, hi, hx⟩
    exact (put_bad B m k a s hs hbad).mono fun e w' ⟨he, k', hw'⟩ => ⟨⟨_, he⟩, m, k', hw', high_refl m, fun hb => hb⟩

theorem high_fine {m m' : MS} (h : Fine m) (hh : high m m') (hb : bytesOk m → bytesOk m') : Fine m' := ⟨hb h.bytes, fun n h8 h12 => ((hh.1 n h8).2).trans (h.wt n h8 h12)⟩
theorem PW_old (B : MB) (m : MS) (k b j : Nat) (hb : b ≠ B.g) : (PW B m k).cell? ⟨b, j, none⟩ = B.W.cell? ⟨b, j, none⟩ := by
  unfold PW World.setRow
  simp [World.cell?, World.drewN, Array.getElem?_modify, Ne.symm hb]

set_option maxHeartbeats 1000000 in
theorem touch_any (B : MB) (m : MS) (k : Nat) (hf : Fine m) (oa : Option Addr) (n cap : Nat) (hn : n ≤ 100) (L : Nat → AC) (hA : IsActs oa n L B.W) (hg : 0 < n → ∀ b off, oa = some ⟨b, off, none⟩ → b < B.g) (hs : ∀ i, i < n → (L i).s.size ≤ 200) :
    Calls Try.prog 39 #[.pointer (some ⟨B.g, 0, none⟩), .slice oa n cap] (PW B m k) fun e w' => e = .returned (.tuple #[]) ∧ ∃ m' k', w' = PW B m' k' ∧ high m m' ∧ Fine m' := by
  have HF := hide hf
  have HA := hide hA
  have HO := hide hg
  have HS := hide hs
  clear hf hA hg hs
  go_enter Try.func39, Try.ntmps39
  go_wp2
  go_loopw [4] (fun I w' => ∃ (i : Nat) (m1 : MS) (k1 : Nat), i ≤ n ∧ I = .int .i64 i ∧ w' = PW B m1 k1 ∧ Hid (high m m1 ∧ Fine m1)) (fun I _ => n - (intOf I).toNat)
  case atStart => exact ⟨0, m, k, by omega, rfl, rfl, hide ⟨high_refl m, HF.out⟩⟩
  case round =>
    obtain ⟨i, m1, k1, hi, rfl, rfl, HG⟩ := hrel
    by_cases hlt : i < n
    · obtain ⟨b, off, rfl, hb, hA⟩ := HA.out.lie (by omega)
      have hne : b ≠ B.g := Nat.ne_of_lt (HO.out (by omega) b off rfl)
      have c0 := fun k => (PW_old B m1 k b _ hne).trans (hA i hlt).k0
      have c1 := fun k => (PW_old B m1 k b _ hne).trans (hA i hlt).k1
      have c2 := fun k => (PW_old B m1 k b _ hne).trans (hA i hlt).k2
      have c3 := fun k => (PW_old B m1 k b _ hne).trans (hA i hlt).k3
      have c4 := fun k => (PW_old B m1 k b _ hne).trans (hA i hlt).k4
      have HP := hide (put_any B m1 · (L i).a (L i).s (hA i hlt).aLt (Nat.lt_of_le_of_lt (HS.out i hlt) (by decide)) HG.out.2.wt)
      clear hA hne
      obtain ⟨x, hx⟩ : ∃ x, x = L i := ⟨_, rfl⟩
      rw [← hx] at c0 c1 c2 c3 c4 HP
      clear hx
      obtain ⟨kd, xn, xa, xs, xw, _, _, _, _, _, _⟩ := x
      simp only at c0 c1 c2 c3 c4 HP
      have HE : ∀ w', (∃ m' k', w' = PW B m' k' ∧ high m1 m' ∧ (bytesOk m1 → bytesOk m')) → ∃ m' k', w' = PW B m' k' ∧ Hid (high m m' ∧ Fine m') := fun w' ⟨m', k', h1, h2, h3⟩ => ⟨m', k', h1, hide ⟨high_trans HG.out.1 h2, high_fine HG.out.2 h2 h3⟩⟩
      cases hk : (kd.toList == [109, 97, 112]) with
      | true =>
        go_wp2_with fail
        go_region_with (go_at_call 21; refine (map_any B m1 _ xn xw).mono ?_; rintro e w' ⟨⟨v, rfl⟩, hw⟩; obtain ⟨m', k', rfl, HN⟩ := HE w' hw)
        go_wp2
        all_goals
          go_round
          case rel => exact ⟨i + 1, m', k', by omega, by go_num, rfl, HN⟩
          case measure => simp [intOf]; omega
      | false =>
        cases hk2 : (kd.toList == [117, 110, 109, 97, 112]) with
        | true =>
          go_wp2_with (go_at_call 23; refine (unmap_any B m1 _ xn).mono ?_; rintro e w' ⟨⟨v, rfl⟩, hw⟩; obtain ⟨m', k', rfl, HN⟩ := HE w' hw)
          go_round
          case rel => exact ⟨i + 1, m', k', by omega, by go_num, rfl, HN⟩
          case measure => simp [intOf]; omega
        | false =>
          go_wp2_with fail
          go_region_with (go_at_call 25; refine (HP.out _).mono ?_; rintro e w' ⟨⟨v, rfl⟩, hw⟩; obtain ⟨m', k', rfl, HN⟩ := HE w' hw)
          go_wp2
          all_goals
            go_round
            case rel => exact ⟨i + 1, m', k', by omega, by go_num, rfl, HN⟩
            case measure => simp [intOf]; omega
    · go_wp2
      go_end0
      exact ⟨rfl, m1, k1, rfl, HG.out⟩
end Go.Proofs.Ytlpcjonklfnejaa
