/- Memory and the document's memory, side by side: no walk in it. -/
import Derived.Test.YtlpcjonklfnejaaMRef6
namespace Go.Proofs.Ytlpcjonklfnejaa
open Go.RowKit

/-- They are alike. -/
structure Rel (m : MS) (r : RS) : Prop where
  pg : ∀ n, n < 12 → (m.rd n = true ↔ r.is n ≠ 0)
  wr : ∀ n, n < 8 → (m.wt n = true ↔ r.is n = 2)
  wh : ∀ n, 8 ≤ n → n < 12 → m.wt n = false
  by' : ∀ a, a < 768 → m.rd (a / 64) = true → m.byte a = r.by' a
  no : ∀ a, a < 768 → m.rd (a / 64) = false → m.byte a = 0
  mb : ∀ x, m.byte x < 256
  rb : ∀ x, r.by' x < 256
def zeroR : RS := ⟨fun _ => 0, fun _ => 0⟩
theorem rel_zero : Rel zeroM zeroR := ⟨fun n _ => by simp [zeroM, zeroR], fun n _ => by simp [zeroM, zeroR], fun _ _ _ => rfl, fun _ _ _ => rfl, fun _ _ _ => rfl, fun _ => Nat.zero_lt_succ 255, fun _ => Nat.zero_lt_succ 255⟩
theorem rel_peek {m : MS} {r : RS} (h : Rel m r) : peek m = rpeek r := by
  funext a
  unfold peek rpeek
  by_cases ha : a < 768
  · have hp := h.pg (a / 64) (by omega)
    by_cases hr : m.rd (a / 64) = true
    · rw [if_pos ⟨ha, hr⟩, if_pos ⟨ha, hp.1 hr⟩, h.by' a ha hr]
    · rw [if_neg (fun e => hr e.2), if_neg (fun e => hr (hp.2 e.2))]
  · rw [if_neg (fun e => ha e.1), if_neg (fun e => ha e.1)]
theorem rel_cnt {m : MS} {r : RS} (h : Rel m r) : ∀ j, j ≤ 4 → cntM m j = cntR r j
  | 0, _ => rfl
  | j + 1, hj => by
    rw [cntM, cntR, rel_cnt h j (by omega)]
    have hp := h.pg (8 + j) (by omega)
    by_cases hr : m.rd (8 + j) = true
    · rw [if_pos hr, if_neg (hp.1 hr)]
    · rw [if_neg hr, if_pos (Classical.byContradiction fun e => hr (hp.2 e))]
theorem rel_good {m : MS} {r : RS} (h : Rel m r) (x : Nat) : goodM m x ↔ rgood r x := by
  unfold goodM rgood
  constructor
  · rintro ⟨h1, h2⟩
    have h8 : x / 64 < 8 := by
      rcases Nat.lt_or_ge (x / 64) 8 with h3 | h3
      · exact h3
      · rw [h.wh _ h3 (by omega)] at h2; cases h2
    exact ⟨by omega, (h.wr _ h8).1 h2⟩
  · rintro ⟨h1, h2⟩
    exact ⟨by omega, (h.wr _ (by omega)).2 h2⟩

theorem rel_map {m : MS} {r : RS} (h : Rel m r) (n : Nat) (hn : n < 8) (b : Bool) : Rel (setWt (setRd m n true) n b) (rmapS r n b) := by
  have his : ∀ k, (rmapS r n b).is k = if k = n then (if b then 2 else 1) else r.is k := fun k => by
    unfold rmapS setIs
    by_cases hk : k = n
    · simp [hk]
    · simp only [if_neg hk]
      split <;> rfl
  have hby : ∀ x, (rmapS r n b).by' x = if r.is n = 0 ∧ n * 64 ≤ x ∧ x < n * 64 + 64 then 0 else r.by' x := fun x => by
    unfold rmapS setIs
    by_cases h0 : r.is n = 0
    · simp only [h0, if_true, true_and]
      rfl
    · simp only [if_neg h0]
      rw [if_neg (fun e => h0 e.1)]
  have hrd : ∀ k, (setWt (setRd m n true) n b).rd k = if k = n then true else m.rd k := fun k => rfl
  have hwt : ∀ k, (setWt (setRd m n true) n b).wt k = if k = n then b else m.wt k := fun k => rfl
  have hbm : ∀ x, (setWt (setRd m n true) n b).byte x = m.byte x := fun x => rfl
  refine ⟨fun k hk => ?_, fun k hk => ?_, fun k h8 h12 => ?_, fun a ha hr => ?_, fun a ha hr => ?_, fun x => h.mb x, fun x => ?_⟩
  · rw [hrd, his]
    by_cases e : k = n
    · rw [if_pos e, if_pos e]; cases b <;> simp
    · rw [if_neg e, if_neg e]; exact h.pg k hk
  · rw [hwt, his]
    by_cases e : k = n
    · rw [if_pos e, if_pos e]; cases b <;> simp
    · rw [if_neg e, if_neg e]; exact h.wr k hk
  · rw [hwt, if_neg (by omega)]; exact h.wh k h8 h12
  · rw [hbm, hby]
    rw [hrd] at hr
    by_cases e : a / 64 = n
    · by_cases h0 : r.is n = 0
      · rw [if_pos ⟨h0, by omega, by omega⟩]
        refine h.no a ha ?_
        rw [e]
        cases hx : m.rd n with
        | false => rfl
        | true => exact absurd h0 ((h.pg n (by omega)).1 hx)
      · rw [if_neg (fun x => h0 x.1)]
        refine h.by' a ha ?_
        rw [e]
        exact (h.pg n (by omega)).2 h0
    · rw [if_neg e] at hr
      rw [if_neg (by omega)]
      exact h.by' a ha hr
  · rw [hrd] at hr
    by_cases e : a / 64 = n
    · rw [if_pos e] at hr; cases hr
    · rw [if_neg e] at hr; rw [hbm]; exact h.no a ha hr
  · rw [hby]
    split
    · decide
    · exact h.rb x
theorem drop_byte (m : MS) (q x : Nat) : (dropM m q).byte x = if q * 64 ≤ x ∧ x < q * 64 + 64 then 0 else m.byte x := by
  show (if q * 64 ≤ x ∧ x < q * 64 + Z64.length then (Z64.getD (x - q * 64) 0).toNat else m.byte x) = _
  rw [Z64_len]
  by_cases hx : q * 64 ≤ x ∧ x < q * 64 + 64
  · rw [if_pos hx, if_pos hx]
    have hz : ∀ i, Z64.getD i 0 = 0 := fun i => by
      unfold Z64
      rw [List.getD_eq_getElem?_getD, List.getElem?_replicate]
      split <;> rfl
    rw [hz]
    rfl
  · rw [if_neg hx, if_neg hx]
theorem rel_drop {m : MS} {r : RS} (h : Rel m r) (q : Nat) (_hq : q < 12) : Rel (dropM m q) (setIs r q 0) := by
  have hrd := drop_rd m q
  have hwt : ∀ k, (dropM m q).wt k = if k = q then false else m.wt k := fun k => rfl
  have his : ∀ k, (setIs r q 0).is k = if k = q then 0 else r.is k := fun k => rfl
  refine ⟨fun k hk => ?_, fun k hk => ?_, fun k h8 h12 => ?_, fun a ha hr => ?_, fun a ha hr => ?_, fun x => ?_, fun x => h.rb x⟩
  · rw [hrd, his]
    by_cases e : k = q
    · rw [if_pos e, if_pos e]; simp
    · rw [if_neg e, if_neg e]; exact h.pg k hk
  · rw [hwt, his]
    by_cases e : k = q
    · rw [if_pos e, if_pos e]; simp
    · rw [if_neg e, if_neg e]; exact h.wr k hk
  · rw [hwt]
    split
    · rfl
    · exact h.wh k h8 h12
  · rw [hrd] at hr
    by_cases e : a / 64 = q
    · rw [if_pos e] at hr; cases hr
    · rw [if_neg e] at hr
      rw [drop_byte, if_neg (by omega)]
      exact h.by' a ha hr
  · rw [drop_byte]
    by_cases e : q * 64 ≤ a ∧ a < q * 64 + 64
    · rw [if_pos e]
    · rw [if_neg e]
      rw [hrd, if_neg (by omega)] at hr
      exact h.no a ha hr
  · rw [drop_byte]
    split
    · decide
    · exact h.mb x
theorem rel_put {m : MS} {r : RS} (h : Rel m r) (a : Nat) (s : ByteArray) (hg : ∀ i, i < s.size → rgood r (addrI a i)) (ha : a < 18446744073709551616) : Rel (writeBy m a s.data.toList) (writeR r a s s.size) := by
  have hbm : ∀ x, (writeBy m a s.data.toList).byte x = if a ≤ x ∧ x < a + s.size then byteAt s (x - a) else m.byte x := fun x => by
    show (if a ≤ x ∧ x < a + s.data.toList.length then _ else _) = _
    rw [← Lib.size_eq]
    rfl
  have hbr : ∀ x, (writeR r a s s.size).by' x = if a ≤ x ∧ x < a + s.size then byteAt s (x - a) else r.by' x := fun x => rfl
  refine ⟨h.pg, h.wr, h.wh, fun x hx hr => ?_, fun x hx hr => ?_, fun x => ?_, fun x => ?_⟩
  · rw [hbm, hbr]
    split
    · rfl
    · exact h.by' x hx hr
  · rw [hbm]
    by_cases e : a ≤ x ∧ x < a + s.size
    · have hfit := rgood_fits ha hg (by omega)
      have h1 := hg (x - a) (by omega)
      unfold addrI at h1
      rw [show a + (x - a) = x by omega, Nat.mod_eq_of_lt (by omega)] at h1
      have h2 : m.rd (x / 64) = true := (h.pg _ (by omega)).2 (by rw [h1.2]; decide)
      rw [show m.rd (x / 64) = false from hr] at h2
      cases h2
    · rw [if_neg e]; exact h.no x hx hr
  · rw [hbm]
    split
    · exact byteAt_lt _ _
    · exact h.mb x
  · rw [hbr]
    split
    · exact byteAt_lt _ _
    · exact h.rb x
theorem rel_seal {m : MS} {r : RS} (h : Rel m r) (q : Nat) (h8 : 8 ≤ q) (hq : q < 12) (hrq : m.rd q = false) (s : ByteArray) (hs : s.size ≤ 64) : Rel (sealM m q s.data.toList) (rsealS r q s) := by
  have hbm : ∀ x, (sealM m q s.data.toList).byte x = if q * 64 ≤ x ∧ x < q * 64 + s.size then byteAt s (x - q * 64) else m.byte x := fun x => by
    show (if q * 64 ≤ x ∧ x < q * 64 + s.data.toList.length then _ else _) = _
    rw [← Lib.size_eq]
    rfl
  have hbr : ∀ x, (rsealS r q s).by' x = if q * 64 ≤ x ∧ x < q * 64 + s.size then byteAt s (x - q * 64) else if q * 64 ≤ x ∧ x < q * 64 + 64 then 0 else r.by' x := fun x => rfl
  have his : ∀ k, (rsealS r q s).is k = if k = q then 3 else r.is k := fun k => rfl
  have hrd := fun k => seal_rd m q k s.data.toList
  have hwt : ∀ k, (sealM m q s.data.toList).wt k = m.wt k := fun k => rfl
  refine ⟨fun k hk => ?_, fun k hk => ?_, fun k h8 h12 => ?_, fun a ha hr => ?_, fun a ha hr => ?_, fun x => ?_, fun x => ?_⟩
  · rw [hrd, his]
    by_cases e : k = q
    · rw [if_pos e, if_pos e]; simp
    · rw [if_neg e, if_neg e]; exact h.pg k hk
  · rw [hwt, his, if_neg (by omega)]; exact h.wr k hk
  · rw [hwt]; exact h.wh k h8 h12
  · rw [hbm, hbr]
    rw [hrd] at hr
    by_cases e1 : q * 64 ≤ a ∧ a < q * 64 + s.size
    · rw [if_pos e1, if_pos e1]
    · rw [if_neg e1, if_neg e1]
      by_cases e2 : q * 64 ≤ a ∧ a < q * 64 + 64
      · rw [if_pos e2]
        exact h.no a ha (by rw [show a / 64 = q by omega]; exact hrq)
      · rw [if_neg e2]
        rw [if_neg (by omega)] at hr
        exact h.by' a ha hr
  · rw [hrd] at hr
    by_cases e : a / 64 = q
    · rw [if_pos e] at hr; cases hr
    · rw [if_neg e] at hr
      rw [hbm, if_neg (by omega)]
      exact h.no a ha hr
  · rw [hbm]
    split
    · exact byteAt_lt _ _
    · exact h.mb x
  · rw [hbr]
    split
    · exact byteAt_lt _ _
    · split
      · decide
      · exact h.rb x
end Go.Proofs.Ytlpcjonklfnejaa
