/- The steps of a ward keep what always holds: Seal, Exec, what threads do to memory; all steps. -/
import Derived.Test.YtlgghomjlhnijaaGreatK6
import Derived.Test.YtlgghomjlhnijaaGreatK4
import Derived.Deep.MidRow
import Derived.Test.YtlgghomjlhnijaaGreatK1
import Derived.LaidEql
import Derived.Lib.IfaceEq
import Derived.Stop.Asserts
import Derived.RowKitTokens
import Derived.Test.YtlgghomjlhnijaaGreatK3
namespace Go.Proofs.YtlgghomjlhnijaaGreat
open Mm

theorem freeQ_some {m : MS} {q : Nat} (h : freeQ m = some q) : 8 ≤ q ∧ q < 12 ∧ m.rd q = false ∧ ∀ n, 8 ≤ n → n < q → m.rd n = true := by
  unfold freeQ at h
  simp only [List.find?_cons, List.find?_nil] at h
  cases h8 : m.rd 8 with
  | false => rw [h8] at h; simp at h; subst h; exact ⟨by omega, by omega, h8, fun n _ _ => by omega⟩
  | true =>
    rw [h8] at h
    cases h9 : m.rd 9 with
    | false =>
      rw [h9] at h; simp at h; subst h
      exact ⟨by omega, by omega, h9, fun n a b => by rw [show n = 8 by omega]; exact h8⟩
    | true =>
      rw [h9] at h
      cases h10 : m.rd 10 with
      | false =>
        rw [h10] at h; simp at h; subst h
        refine ⟨by omega, by omega, h10, fun n a b => ?_⟩
        rcases show n = 8 ∨ n = 9 by omega with rfl | rfl
        · exact h8
        · exact h9
      | true =>
        rw [h10] at h
        cases h11 : m.rd 11 with
        | false =>
          rw [h11] at h; simp at h; subst h
          refine ⟨by omega, by omega, h11, fun n a b => ?_⟩
          rcases show n = 8 ∨ n = 9 ∨ n = 10 by omega with rfl | rfl | rfl
          · exact h8
          · exact h9
          · exact h10
        | true => rw [h11] at h; simp at h
theorem freeQ_none {m : MS} (h : freeQ m = none) : ∀ n, 8 ≤ n → n < 12 → m.rd n = true := by
  unfold freeQ at h
  have h' := List.find?_eq_none.1 h
  intro n h1 h2
  have := h' n (by simp; omega)
  simpa using this
theorem bytesV_len {k : Nat} {v : VL} (h : ValOk k v) : (bytesV k v).length ≤ 64 := by
  unfold bytesV
  rcases h with ⟨rfl, h1, _⟩ | ⟨rfl, _⟩
  · rw [if_neg (by omega), List.length_append, List.length_singleton, ← Lib.size_eq]; omega
  · rw [if_pos rfl]; simp [bytesL]
theorem sealByte (m : MS) (q : Nat) (l : W8) (x : Nat) : (sealM m q l).byte x = if q * 64 ≤ x ∧ x < q * 64 + l.length then (l.getD (x - q * 64) 0).toNat else m.byte x := rfl
theorem sealRd (m : MS) (q n : Nat) (l : W8) : (sealM m q l).rd n = if n = q then true else m.rd n := rfl

/-- In the midst of sealing: the arguments of d are sealed. -/
structure Mid (p : POL) (n : Nat) (d : List Nat) (s : WS) : Prop where
  oth : ∀ k, k < 3 → k ≠ n → TOk p (s.T k)
  mem : MOk s
  log : ∀ e ∈ s.log, EnOk p e
  ph : (s.T n).phase = 4
  kl : KlOk (s.T n).call
  ar : ∀ i, (s.T n).args i < 18446744073709551616
  nr : (s.T n).call.nr ≤ 8
  dec : (decideR p (s.T n).call (vsOf (s.T n).vals)).kind = 1
  vok : ValsOk (s.T n) (ptsOf (s.T n).call.nr)
  sld : ∀ i, (s.T n).sld i = true ↔ i ∈ d
theorem Mid.next {p : POL} {n : Nat} {d : List Nat} {s : WS} (h : Mid p n d s) (hn : n < 3) {i q : Nat} (hi : i ∈ ptsOf (s.T n).call.nr) (hd : i ∉ d) (hq : freeQ s.mem = some q) :
    Mid p n (d ++ [i]) ⟨updF s.T n { s.T n with args := updF (s.T n).args i (q * 64), sld := updF (s.T n).sld i true }, sealM s.mem q (bytesV (kindAt (s.T n).call.nr i) ((s.T n).vals i)), s.log⟩ := by
  obtain ⟨q8, q12, qr, _⟩ := freeQ_some hq
  have hv := (h.vok i).1 hi
  have hlen := bytesV_len hv
  obtain ⟨l, hl⟩ : ∃ l, l = bytesV (kindAt (s.T n).call.nr i) ((s.T n).vals i) := ⟨_, rfl⟩
  rw [← hl] at hlen ⊢
  obtain ⟨t, ht⟩ : ∃ t : TH, t = { s.T n with args := updF (s.T n).args i (q * 64), sld := updF (s.T n).sld i true } := ⟨_, rfl⟩
  have tc : t.call = (s.T n).call := by rw [ht]
  have tv : t.vals = (s.T n).vals := by rw [ht]
  have ta : t.args = updF (s.T n).args i (q * 64) := by rw [ht]
  have ts : t.sld = updF (s.T n).sld i true := by rw [ht]
  have tp : t.phase = (s.T n).phase := by rw [ht]
  rw [← ht]
  clear ht
  have tn : updF s.T n t n = t := updF_same _ _ _
  have te : ∀ k, k ≠ n → updF s.T n t k = s.T k := fun k hk => updF_other _ _ hk
  have hdi : (s.T n).sld i = false := by
    cases hsi : (s.T n).sld i with
    | false => rfl
    | true => exact absurd ((h.sld i).1 hsi) hd
  -- who has a page now
  have who : ∀ k j, (updF s.T n t k).sld j = true → (k = n ∧ j = i ∧ (updF s.T n t k).args j = q * 64) ∨ ((s.T k).sld j = true ∧ (updF s.T n t k).args j = (s.T k).args j ∧ ¬ (k = n ∧ j = i)) := fun k j hj => by
    by_cases hk : k = n
    · subst hk
      rw [tn] at hj ⊢
      by_cases hji : j = i
      · subst hji
        exact .inl ⟨rfl, rfl, by rw [ta, updF_same]⟩
      · rw [ts, updF_other _ _ hji] at hj
        exact .inr ⟨hj, by rw [ta, updF_other _ _ hji], fun h => hji h.2⟩
    · rw [te k hk] at hj ⊢
      exact .inr ⟨hj, rfl, fun h => hk h.1⟩
  have hpg : ∀ k j, k < 3 → (s.T k).sld j = true → (s.T k).args j ≠ q * 64 := fun k j hk hj he => by
    obtain ⟨_, q', a1, a2, a3, a4, _⟩ := h.mem.held k j hk hj
    have : q' = q := by omega
    rw [this, qr] at a4
    cases a4
  refine ⟨fun k hk hkn => ?_, ⟨⟨fun x => ?_, fun x h8 h12 => h.mem.fine.wt x h8 h12⟩, fun q' h8 h12 hr => ?_, fun k j hk hj => ?_, fun k j k' j' hk hk' hj hj' he => ?_⟩, h.log, ?_, ?_, fun j => ?_, ?_, ?_, ?_, fun j => ?_⟩
  · show TOk p (updF s.T n t k)
    rw [te k hkn]
    exact h.oth k hk hkn
  · show (sealM s.mem q l).byte x < 256
    rw [sealByte]
    split
    · exact UInt8.toNat_lt _
    · exact h.mem.fine.bytes x
  · show ∃ k j, k < 3 ∧ j < 4 ∧ (updF s.T n t k).sld j = true ∧ (updF s.T n t k).args j = q' * 64
    have hr' : (sealM s.mem q l).rd q' = true := hr
    rw [sealRd] at hr'
    by_cases hqq : q' = q
    · exact ⟨n, i, hn, (pts_of hi).2.1, by rw [tn, ts, updF_same], by rw [tn, ta, updF_same, hqq]⟩
    · rw [if_neg hqq] at hr'
      obtain ⟨k, j, hk, hj, a1, a2⟩ := h.mem.own q' h8 h12 hr'
      by_cases hkn : k = n
      · subst hkn
        have hji : j ≠ i := fun e => by rw [e, hdi] at a1; cases a1
        exact ⟨k, j, hk, hj, by rw [tn, ts, updF_other _ _ hji]; exact a1, by rw [tn, ta, updF_other _ _ hji]; exact a2⟩
      · exact ⟨k, j, hk, hj, by rw [te k hkn]; exact a1, by rw [te k hkn]; exact a2⟩
  · show j < 4 ∧ ∃ q', 8 ≤ q' ∧ q' < 12 ∧ (updF s.T n t k).args j = q' * 64 ∧ (sealM s.mem q l).rd q' = true ∧ Stands (sealM s.mem q l) q' (bytesV (kindAt (updF s.T n t k).call.nr j) ((updF s.T n t k).vals j))
    rcases who k j hj with ⟨rfl, rfl, a3⟩ | ⟨a1, a2, a3⟩
    · refine ⟨(pts_of hi).2.1, q, q8, q12, a3, by rw [sealRd, if_pos rfl], ?_⟩
      rw [tn, tc, tv, ← hl]
      refine ⟨hlen, fun x hx => ?_⟩
      rw [sealByte, if_pos ⟨by omega, by omega⟩, show q * 64 + x - q * 64 = x by omega]
    · obtain ⟨h4, q', b1, b2, b3, b4, b5⟩ := h.mem.held k j hk a1
      have hqq : q' ≠ q := fun e => hpg k j hk a1 (by rw [b3, e])
      refine ⟨h4, q', b1, b2, by rw [a2]; exact b3, by rw [sealRd, if_neg hqq]; exact b4, ?_⟩
      have hbv : bytesV (kindAt (updF s.T n t k).call.nr j) ((updF s.T n t k).vals j) = bytesV (kindAt (s.T k).call.nr j) ((s.T k).vals j) := by
        by_cases hkn : k = n
        · subst hkn; rw [tn, tc, tv]
        · rw [te k hkn]
      rw [hbv]
      refine ⟨b5.1, fun x hx => ?_⟩
      have hb1 := b5.1
      rw [sealByte, if_neg (by omega)]
      exact b5.2 x hx
  · show k = k' ∧ j = j'
    have he' : (updF s.T n t k).args j = (updF s.T n t k').args j' := he
    rcases who k j hj with ⟨a1, a2, a3⟩ | ⟨a1, a2, a3⟩
    · rcases who k' j' hj' with ⟨b1, b2, b3⟩ | ⟨b1, b2, b3⟩
      · exact ⟨a1.trans b1.symm, a2.trans b2.symm⟩
      · exact absurd (by rw [← b2, ← he', a3]) (hpg k' j' hk' b1)
    · rcases who k' j' hj' with ⟨b1, b2, b3⟩ | ⟨b1, b2, b3⟩
      · exact absurd (by rw [← a2, he', b3]) (hpg k j hk a1)
      · rw [a2, b2] at he'
        exact h.mem.uniq k j k' j' hk hk' a1 b1 he'
  · show (updF s.T n t n).phase = 4
    rw [tn, tp]; exact h.ph
  · show KlOk (updF s.T n t n).call
    rw [tn, tc]; exact h.kl
  · show (updF s.T n t n).args j < _
    rw [tn, ta]
    unfold updF
    split
    · omega
    · exact h.ar j
  · show (updF s.T n t n).call.nr ≤ 8
    rw [tn, tc]; exact h.nr
  · show (decideR p (updF s.T n t n).call (vsOf (updF s.T n t n).vals)).kind = 1
    rw [tn, tc, tv]; exact h.dec
  · show ValsOk (updF s.T n t n) (ptsOf (updF s.T n t n).call.nr)
    rw [tn]
    intro j
    rw [tc, tv]
    exact h.vok j
  · show (updF s.T n t n).sld j = true ↔ j ∈ d ++ [i]
    rw [tn, ts, List.mem_append, List.mem_singleton]
    by_cases hji : j = i
    · subst hji
      rw [updF_same]
      simp
    · rw [updF_other _ _ hji, h.sld]
      simp [hji]
theorem sealL_inv {p : POL} {n : Nat} (hn : n < 3) : ∀ (r d : List Nat) (s : WS), Mid p n d s → d ++ r = ptsOf (s.T n).call.nr → Inv p (sealL n r s)
  | [], d, s, h, hd => by
    rw [List.append_nil] at hd
    unfold sealL
    refine ⟨fun k hk => ?_, h.mem.put rfl (fun i _ => ⟨rfl, rfl, rfl⟩), h.log⟩
    by_cases hkn : k = n
    · subst hkn
      rw [T_put]
      exact ⟨by show 5 ≤ 6; omega, h.kl, h.ar, fun h1 => (by rcases h1 with h1 | h1 <;> cases h1), fun h1 => (by cases h1), fun h1 => absurd rfl h1, fun _ h1 => by exact absurd h1 (by show ¬ 5 ≤ 4; omega), fun h1 => (by cases h1), fun _ h1 => by exact absurd h1 (by show ¬ 5 ≤ 4; omega), fun _ h1 => by exact absurd h1 (by show ¬ 5 ≤ 4; omega), fun h1 => (by cases h1), fun _ => .inr ⟨h.nr, h.dec, fun i => by rw [← hd]; exact h.sld i, h.vok⟩⟩
    · rw [T_else _ _ hkn]
      exact h.oth k hk hkn
  | i :: r, d, s, h, hd => by
    unfold sealL
    split
    · exact end_inv hn h.mem h.oth h.log 2 12 zeroVS (no_entry p hn (.inl rfl) h.kl (by omega))
    · rename_i q hq
      have hi : i ∈ ptsOf (s.T n).call.nr := by rw [← hd]; simp
      have hnd := pts_nodup (s.T n).call.nr
      rw [← hd, List.nodup_append] at hnd
      have hdi : i ∉ d := fun hm => hnd.2.2 _ hm _ (by simp) rfl
      refine sealL_inv hn r (d ++ [i]) _ (h.next hn hi hdi hq) ?_
      rw [List.append_assoc]
      show d ++ i :: r = ptsOf (updF s.T n _ n).call.nr
      rw [updF_same]
      exact hd
theorem mid_start {p : POL} {s : WS} (h : Inv p s) {n : Nat} (hn : n < 3) (hph : (s.T n).phase = 4) : Mid p n [] s := by
  have ht := h.thr n hn
  have hv := ht.vok (by omega) (by omega)
  rw [(ht.full (by omega) (by omega)).1, List.take_length] at hv
  exact ⟨fun k hk _ => h.thr k hk, h.mem, h.log, hph, ht.kl, ht.ar, ht.trc (by omega) (by omega), ht.dec hph, hv, fun i => by rw [(ht.plain (by omega)).1 i]; simp⟩
theorem seal_inv {p : POL} {s : WS} (h : Inv p s) {n : Nat} (hn : n < 3) (hph : (s.T n).phase = 4) : Inv p (sealS n s) :=
  sealL_inv hn _ [] s (mid_start h hn hph) rfl

/-- Bytes of memory are bytes. -/
theorem mtext_len {f : Nat → Option Nat} {a : Nat} : ∀ (k i : Nat) (l : List Nat) (e : Nat) (l' : List Nat), Mm.textP f a k i l = (e, l') → l.length + k ≤ 41 → l'.length ≤ 40
  | 0, i, l, e, l', h, _ => by
    unfold Mm.textP at h
    cases h
    simp
  | k + 1, i, l, e, l', h, hk => by
    unfold Mm.textP at h
    split at h
    · cases h; simp
    · split at h
      · cases h; omega
      · exact mtext_len k (i + 1) _ e l' h (by rw [List.length_append, List.length_singleton]; omega)
theorem follow_ok {m : MS} {k a : Nat} {x : VL} (h : followF m k a = .inl x) : VlOk x := by
  unfold followF at h
  split at h
  · split at h
    · rename_i l hl
      obtain rfl := Sum.inl.inj h
      have := mtext_len 41 0 [] 0 l hl (by simp)
      refine ⟨?_, by simp, i64_nat (k := 0) (by omega)⟩
      show (bytesOf l).toArray.size ≤ 1000
      simp [bytesOf]
      omega
    · cases h
  · split at h
    · cases h
    · split at h
      · rename_i x' hx
        obtain rfl := Sum.inl.inj h
        obtain ⟨h1, h2, _⟩ := readR_some hx
        exact ⟨by simp, h1, i64_nat (by omega)⟩
      · cases h
theorem peek_page {m : MS} {q j : Nat} (hq : q < 12) (hj : j < 64) (hr : m.rd q = true) : peek m (addrI (q * 64) j) = some (m.byte (q * 64 + j)) := by
  unfold peek addrI
  rw [Nat.mod_eq_of_lt (by omega), if_pos ⟨by omega, by rw [show (q * 64 + j) / 64 = q by omega]; exact hr⟩]
theorem text_page {m : MS} {q : Nat} (hq : q < 12) (hr : m.rd q = true) (l : W8) (hl : l.length ≤ 40) (h0 : (0 : UInt8) ∉ l) (hs : Stands m q (l ++ [0])) : ∀ (k i : Nat), i + k = 41 → i ≤ l.length → Mm.textP (peek m) (q * 64) k i ((l.take i).map UInt8.toNat) = (0, l.map UInt8.toNat)
  | 0, i, hk, hi => by omega
  | k + 1, i, hk, hi => by
    have hb := hs.2 i (by rw [List.length_append, List.length_singleton]; omega)
    unfold Mm.textP
    rw [peek_page hq (by omega) hr, hb]
    simp only
    by_cases hlt : i < l.length
    · have hg : (l ++ [0]).getD i 0 = l[i] := by
        rw [List.getD_eq_getElem?_getD, List.getElem?_append_left hlt, List.getElem?_eq_getElem hlt]
        rfl
      rw [hg]
      have hne : l[i].toNat ≠ 0 := fun e => h0 (by
        have : l[i] = 0 := UInt8.toNat_inj.1 (by rw [e]; rfl)
        rw [← this]
        exact List.getElem_mem hlt)
      rw [if_neg hne]
      have ht : (l.take i).map UInt8.toNat ++ [l[i].toNat] = (l.take (i + 1)).map UInt8.toNat := by
        rw [List.take_add_one, List.getElem?_eq_getElem hlt, List.map_append]
        rfl
      rw [ht]
      exact text_page hq hr l hl h0 hs k (i + 1) (by omega) (by omega)
    · have hie : i = l.length := by omega
      have hg : (l ++ [0]).getD i 0 = 0 := by
        rw [List.getD_eq_getElem?_getD, hie]
        simp
      rw [hg, if_pos (show UInt8.toNat 0 = 0 from rfl), hie, List.take_length]
theorem get_page {m : MS} {q : Nat} (hq : q < 12) (hr : m.rd q = true) {l : W8} (hs : Stands m q l) : getR m (q * 64) l.length = some (l.map UInt8.toNat) := get_sealed hq hs.1 hr hs.2
/-- A sealed pointer leads to what was sealed. -/
theorem follow_sealed {m : MS} {k q : Nat} {v : VL} (hv : ValOk k v) (hq : q < 12) (hr : m.rd q = true) (hs : Stands m q (bytesV k v)) : followF m k (q * 64) = .inl v := by
  obtain ⟨path, ip, port⟩ := v
  unfold followF
  unfold bytesV at hs
  rcases hv with ⟨rfl, h1, h2, h3, h4⟩ | ⟨rfl, h1, h2, r, h3, h4⟩
  · rw [if_neg (by omega)] at hs
    simp only at h1 h2 h3 h4 hs
    subst h3 h4
    have := text_page hq hr path.data.toList (by rw [← Lib.size_eq]; exact h1) h2 hs 41 0 (by omega) (by omega)
    rw [List.take_zero, List.map_nil] at this
    rw [if_pos rfl, this]
    simp only
    rw [bytesOf_toNat]
  · rw [if_pos rfl] at hs
    simp only at h1 h2 h3 hs
    subst h1 h3
    rw [show ((r : Nat) : Int).toNat = r from rfl] at hs
    have hg := get_page hq hr hs
    rw [show (bytesL ip r).length = 16 from rfl] at hg
    rw [if_neg (by omega), hg]
    simp only
    rw [bytesOf_toNat, readR_bytes ip r h2 h4]
theorem follow_err {m : MS} {k a e : Nat} (h : followF m k a = .inr e) : e ≤ 255 := by
  unfold followF at h
  split at h
  · split at h
    · cases h
    · obtain rfl := Sum.inr.inj h
      split <;> omega
  · split at h
    · obtain rfl := Sum.inr.inj h; omega
    · split at h
      · cases h
      · obtain rfl := Sum.inr.inj h; omega
theorem exec_flat {p : POL} (hp : PolOk p) {s : WS} (h : Inv p s) {n : Nat} (hn : n < 3) (hf : Flat p (s.T n)) : ∀ (r : List Nat) (v : Nat → VL), (∀ i, VlOk (v i)) → Inv p (execL n s r v)
  | [], v, hv => by
    unfold execL
    refine end_inv hn h.mem (fun k hk _ => h.thr k hk) h.log 1 0 _ ⟨by show 1 ≤ 1 ∧ 1 ≤ 3; omega, hn, (h.thr n hn).kl, vsOf_ok fun i _ => hv i, by show (0 : Int) ≤ 0 ∧ (0 : Int) ≤ 255; omega, fun _ => ?_⟩
    rcases top_laws hp (s.T n).call (vsOf v) with ⟨h1, _⟩ | ⟨_, _, h3⟩
    · rw [hf.1] at h1; cases h1
    · show (decideR p (s.T n).call (vsOf v)).kind = 1
      rw [h3]; exact hf.1
  | i :: r, v, hv => by
    unfold execL
    split
    · rename_i x hx
      refine exec_flat hp h hn hf r _ fun j => ?_
      unfold updF
      split
      · exact follow_ok hx
      · exact hv j
    · rename_i e he
      exact h.ended hn (.inl rfl) (by have := follow_err he; omega)
/-- What a sealed call leads to is what was looked at. -/
theorem exec_sealed {p : POL} {s : WS} (h : Inv p s) {n : Nat} (hn : n < 3) (hf : Sealed p (s.T n)) : ∀ (r d : List Nat) (v : Nat → VL), d ++ r = ptsOf (s.T n).call.nr → (∀ i, v i = if i ∈ d then (s.T n).vals i else zeroVL) → execL n s r v = endS n 1 0 (vsOf (s.T n).vals) s
  | [], d, v, hd, hv => by
    unfold execL
    rw [List.append_nil] at hd
    have : v = (s.T n).vals := by
      funext i
      rw [hv i]
      split
      · rfl
      · rename_i hi
        rw [hd] at hi
        exact ((hf.vok i).2 hi).symm
    rw [this]
  | i :: r, d, v, hd, hv => by
    have hi : i ∈ ptsOf (s.T n).call.nr := by rw [← hd]; simp
    obtain ⟨_, q, q8, q12, qa, qr, qs⟩ := h.mem.held n i hn ((hf.sld i).2 hi)
    unfold execL
    rw [qa, follow_sealed ((hf.vok i).1 hi) q12 qr qs]
    refine exec_sealed h hn hf r (d ++ [i]) _ (by rw [List.append_assoc]; exact hd) fun j => ?_
    unfold updF
    by_cases hj : j = i
    · rw [if_pos hj, if_pos (List.mem_append.2 (.inr (List.mem_singleton.2 hj))), hj]
    · rw [if_neg hj, hv j]
      by_cases hjd : j ∈ d
      · rw [if_pos hjd, if_pos (List.mem_append.2 (.inl hjd))]
      · rw [if_neg hjd, if_neg (fun h => (List.mem_append.1 h).elim hjd fun h => hj (List.mem_singleton.1 h))]
theorem exec_inv {p : POL} (hp : PolOk p) {s : WS} (h : Inv p s) {n : Nat} (hn : n < 3) (hph : (s.T n).phase = 5) : Inv p (execS n s) := by
  have ht := h.thr n hn
  unfold execS
  split
  · exact h.ended hn (.inl rfl) (by omega)
  · rcases ht.ex hph with hf | hf
    · exact exec_flat hp h hn hf _ _ fun _ => zeroVL_ok
    · rw [exec_sealed h hn hf (ptsOf (s.T n).call.nr) [] (fun _ => zeroVL) rfl fun i => by simp]
      exact end_inv hn h.mem (fun k hk _ => h.thr k hk) h.log 1 0 _ ⟨by show 1 ≤ 1 ∧ 1 ≤ 3; omega, hn, ht.kl, hf.vok.vs, by show (0 : Int) ≤ 0 ∧ (0 : Int) ≤ 255; omega, fun _ => hf.dec⟩
theorem step_inv {p : POL} (hp : polF p = 0) (hq : PolOk p) {s : WS} (h : Inv p s) {n : Nat} (hn : n < 3) : Inv p (stepS p n s) := by
  unfold stepS
  split
  · rename_i hph; exact filter_inv hp h hn hph
  · rename_i hph; exact snap_inv h hn hph
  · rename_i hph; exact judge_inv hp h hn hph
  · rename_i hph; exact seal_inv h hn hph
  · rename_i hph; exact exec_inv hq h hn hph
  · exact h
/-- What threads do to memory. -/
theorem mem_inv {p : POL} {s : WS} (h : Inv p s) {m : MS} (hh : high s.mem m) (hb : bytesOk s.mem → bytesOk m) : Inv p { s with mem := m } :=
  ⟨h.thr, ⟨high_fine h.mem.fine hh hb, fun q h8 h12 hr => h.mem.own q h8 h12 ((hh.1 q h8).1 ▸ hr), fun n i hn hi => by
    obtain ⟨h4, q, a1, a2, a3, a4, a5, a6⟩ := h.mem.held n i hn hi
    exact ⟨h4, q, a1, a2, a3, by rw [show ({ s with mem := m } : WS).mem = m from rfl, (hh.1 q a1).1]; exact a4, a5, fun j hj => by rw [show ({ s with mem := m } : WS).mem = m from rfl, hh.2 _ (by omega)]; exact a6 j hj⟩, h.mem.uniq⟩, h.log⟩
end Go.Proofs.YtlgghomjlhnijaaGreat

/- How a ward's steps go on: calls end; what comes late changes nothing. No walk in it. -/
namespace Go.Proofs.YtlgghomjlhnijaaGreat
open Mm

/-- How many steps a thread's call has before it at most. -/
def rankK (k : Nat) (t : TH) : Nat := match k with
  | 1 => 86
  | 2 => 3 + 41 * ((ptsOf t.call.nr).length - t.seen) - t.read.length
  | 3 => 3
  | 4 => 2
  | 5 => 1
  | _ => 0
def rank (t : TH) : Nat := rankK t.phase t
theorem rank_of {t : TH} {k : Nat} (h : t.phase = k) : rank t = rankK k t := by unfold rank; rw [h]
theorem seven {k : Nat} (h : k ≤ 6) : k = 0 ∨ k = 1 ∨ k = 2 ∨ k = 3 ∨ k = 4 ∨ k = 5 ∨ k = 6 := by omega
theorem rank_le {p : POL} {t : TH} (h : TOk p t) : rank t ≤ 86 := by
  have hf := pts_few t.call.nr
  rcases seven h.ph with hp | hp | hp | hp | hp | hp | hp <;> rw [rank_of hp] <;> simp only [rankK] <;> omega
theorem rank_zero {p : POL} {t : TH} (h : TOk p t) (hr : rank t = 0) : t.phase = 0 ∨ t.phase = 6 := by
  rcases seven h.ph with hp | hp | hp | hp | hp | hp | hp <;> rw [rank_of hp] at hr <;> simp only [rankK] at hr
  · exact .inl hp
  · omega
  · obtain ⟨h3, h4⟩ := h.snap hp
    have : t.read.length ≤ 40 := by
      by_cases hk : kindAt t.call.nr (ptAt t) = 3
      · have := h4.1 hk; omega
      · exact (h4.2 hk).1
    omega
  · omega
  · omega
  · omega
  · exact .inr hp
/-- What a step does to the ward. -/
structure Went (n : Nat) (s s' : WS) : Prop where
  oth : ∀ k, k ≠ n → s'.T k = s.T k
  how : (s'.log = s.log ∧ (s'.T n).call = (s.T n).call ∧ 1 ≤ (s'.T n).phase ∧ (s'.T n).phase ≤ 5) ∨ ((∃ e : EN, s'.log = s.log ++ [e] ∧ e.thr = n ∧ e.call = (s.T n).call) ∧ ((s'.T n).phase = 0 ∨ (s'.T n).phase = 6))
  less : 1 ≤ rank (s.T n) → rank (s'.T n) + 1 ≤ rank (s.T n)
theorem rank_idle (ph : Nat) (h : ph = 0 ∨ ph = 6) : rank (idleT ph) = 0 := by rcases h with rfl | rfl <;> rfl
theorem went_end {n : Nat} {s : WS} {c : KL} {s0 : WS} (kind : Nat) (errno : Int) (v : VS) (ho : ∀ k, k ≠ n → s.T k = s0.T k) (hl : s.log = s0.log) (hc : (s.T n).call = c) (hc0 : (s0.T n).call = c) : Went n s0 (endS n kind errno v s) := by
  have tn : (endS n kind errno v s).T n = idleT (if kind = 3 then 6 else 0) := updF_same _ _ _
  refine ⟨fun k hk => by rw [show (endS n kind errno v s).T k = s.T k from updF_other _ _ hk]; exact ho k hk, .inr ⟨⟨⟨kind, n, (s.T n).call, v, errno⟩, by rw [show (endS n kind errno v s).log = s.log ++ _ from rfl, hl], rfl, by show (s.T n).call = _; rw [hc, hc0]⟩, ?_⟩, fun h => ?_⟩
  · rw [tn]
    show (if kind = 3 then 6 else 0) = 0 ∨ (if kind = 3 then 6 else 0) = 6
    split <;> simp
  · rw [tn, rank_idle _ (by split <;> simp)]
    omega
theorem went_put {n : Nat} {s : WS} {t : TH} (hc : t.call = (s.T n).call) (h1 : 1 ≤ t.phase) (h5 : t.phase ≤ 5) (hr : 1 ≤ rank (s.T n) → rank t + 1 ≤ rank (s.T n)) : Went n s (s.put n t) :=
  ⟨fun k hk => T_else _ _ hk, .inl ⟨rfl, by rw [T_put]; exact hc, by rw [T_put]; exact h1, by rw [T_put]; exact h5⟩, fun h => by rw [T_put]; exact hr h⟩
theorem went_do {n : Nat} {s : WS} (a : ACT) (next : Nat) (h1 : 1 ≤ next) (h5 : next ≤ 5) (hr : rank { s.T n with phase := next } + 1 ≤ rank (s.T n)) : Went n s (doS n a next s) := by
  unfold doS
  split
  · exact went_put rfl h1 h5 fun _ => hr
  · split
    · exact went_end _ _ _ (fun _ _ => rfl) rfl rfl rfl
    · exact went_end _ _ _ (fun _ _ => rfl) rfl rfl rfl
theorem went_seal {n : Nat} {s0 : WS} (hr0 : 2 ≤ rank (s0.T n)) : ∀ (r : List Nat) (s : WS), (∀ k, k ≠ n → s.T k = s0.T k) → s.log = s0.log → (s.T n).call = (s0.T n).call → Went n s0 (sealL n r s)
  | [], s, ho, hl, hc => by
    unfold sealL
    refine ⟨fun k hk => by rw [T_else _ _ hk]; exact ho k hk, .inl ⟨hl, by rw [T_put]; exact hc, by rw [T_put]; show 1 ≤ 5; omega, by rw [T_put]; show 5 ≤ 5; omega⟩, fun _ => ?_⟩
    rw [T_put]
    show 1 + 1 ≤ _
    omega
  | i :: r, s, ho, hl, hc => by
    unfold sealL
    split
    · exact went_end _ _ _ ho hl hc rfl
    · refine went_seal hr0 r _ (fun k hk => ?_) hl ?_
      · show updF s.T n _ k = _
        rw [updF_other _ _ hk]
        exact ho k hk
      · show (updF s.T n _ n).call = _
        rw [updF_same]
        exact hc
theorem went_exec {n : Nat} {s : WS} : ∀ (r : List Nat) (v : Nat → VL), Went n s (execL n s r v)
  | [], v => by unfold execL; exact went_end _ _ _ (fun _ _ => rfl) rfl rfl rfl
  | i :: r, v => by
    unfold execL
    split
    · exact went_exec r _
    · exact went_end _ _ _ (fun _ _ => rfl) rfl rfl rfl
theorem step_went {p : POL} (_hp : polF p = 0) {s : WS} (h : Inv p s) {n : Nat} (hn : n < 3) (h1 : 1 ≤ (s.T n).phase) (h5 : (s.T n).phase ≤ 5) : Went n s (stepS p n s) := by
  have ht := h.thr n hn
  unfold stepS
  split
  · rename_i hph
    have hr := rank_of hph
    simp only [rankK] at hr
    unfold filterS
    split
    · rename_i hj
      refine went_put rfl (by show 1 ≤ 2; omega) (by show 2 ≤ 5; omega) fun _ => ?_
      have := pts_few (s.T n).call.nr
      rw [hr]
      show 3 + 41 * ((ptsOf (s.T n).call.nr).length - (s.T n).seen) - (s.T n).read.length + 1 ≤ 86
      omega
    · refine went_do _ 5 (by omega) (by omega) ?_
      rw [hr]
      show 1 + 1 ≤ 86
      omega
  · rename_i hph
    have hr := rank_of hph
    simp only [rankK] at hr
    obtain ⟨hseen, hread⟩ := ht.snap hph
    have hl : (s.T n).read.length ≤ 40 := by
      by_cases hk : kindAt (s.T n).call.nr (ptAt (s.T n)) = 3
      · have := hread.1 hk; omega
      · exact (hread.2 hk).1
    unfold snapS
    split
    · exact went_end _ _ _ (fun _ _ => rfl) rfl rfl rfl
    · unfold snapL
      simp only
      split
      · split
        · exact went_end _ _ _ (fun _ _ => rfl) rfl rfl rfl
        · by_cases hend : (s.T n).seen + 1 = (ptsOf (s.T n).call.nr).length
          · rw [if_pos hend]
            refine went_put rfl (by show 1 ≤ 3; omega) (by show 3 ≤ 5; omega) fun _ => ?_
            rw [hr]
            show 3 + 1 ≤ _
            omega
          · rw [if_neg hend]
            refine went_put rfl (by show 1 ≤ 2; omega) (by show 2 ≤ 5; omega) fun _ => ?_
            rw [hr]
            show 3 + 41 * ((ptsOf (s.T n).call.nr).length - ((s.T n).seen + 1)) - ([] : W8).length + 1 ≤ _
            simp only [List.length_nil]
            omega
      · refine went_put rfl (by show 1 ≤ (s.T n).phase; omega) (by show (s.T n).phase ≤ 5; omega) fun _ => ?_
        rw [hr, rank_of (k := 2) (by exact hph)]
        show 3 + 41 * ((ptsOf (s.T n).call.nr).length - (s.T n).seen) - ((s.T n).read ++ [_]).length + 1 ≤ _
        rw [List.length_append, List.length_singleton]
        omega
  · rename_i hph
    refine went_do _ 4 (by omega) (by omega) ?_
    rw [rank_of hph]
    show 2 + 1 ≤ 3
    omega
  · rename_i hph
    exact went_seal (by rw [rank_of hph]; show 2 ≤ 2; omega) _ s (fun _ _ => rfl) rfl rfl
  · unfold execS
    split
    · exact went_end _ _ _ (fun _ _ => rfl) rfl rfl rfl
    · exact went_exec _ _
  · rename_i a1 a2 a3 a4 a5
    exfalso
    rcases (show (s.T n).phase = 1 ∨ (s.T n).phase = 2 ∨ (s.T n).phase = 3 ∨ (s.T n).phase = 4 ∨ (s.T n).phase = 5 by omega) with h | h | h | h | h
    · exact a1 h
    · exact a2 h
    · exact a3 h
    · exact a4 h
    · exact a5 h

theorem high_symm {a b : MS} (h : high a b) : high b a := ⟨fun n hn => ⟨(h.1 n hn).1.symm, (h.1 n hn).2.symm⟩, fun x hx => (h.2 x hx).symm⟩
theorem high_freeM {a b : MS} (h : high a b) (x : Nat) : high (freeM a x) (freeM b x) := by
  unfold freeM
  by_cases h8 : 8 ≤ x / 64
  · have hr := (h.1 _ h8).1
    by_cases hc : 8 ≤ x / 64 ∧ x / 64 < 12 ∧ x % 64 = 0 ∧ a.rd (x / 64) = true
    · rw [if_pos hc, if_pos ⟨hc.1, hc.2.1, hc.2.2.1, by rw [hr]; exact hc.2.2.2⟩]
      refine ⟨fun n hn => ?_, fun y hy => ?_⟩
      · rw [dropRd, dropRd, dropWt, dropWt, (h.1 n hn).1, (h.1 n hn).2]
        exact ⟨rfl, rfl⟩
      · rw [dropByte, dropByte, h.2 y hy]
    · rw [if_neg hc, if_neg (fun hd => hc ⟨hd.1, hd.2.1, hd.2.2.1, by rw [← hr]; exact hd.2.2.2⟩)]
      exact h
  · rw [if_neg (fun hc => h8 hc.1), if_neg (fun hc => h8 hc.1)]
    exact h
theorem high_freeT {a b : MS} (h : high a b) (t : TH) : ∀ i, high (freeT t a i) (freeT t b i)
  | 0 => h
  | i + 1 => by
    unfold freeT
    split
    · exact high_freeM (high_freeT h t i) _
    · exact high_freeT h t i
theorem high_seal {a b : MS} (h : high a b) (q : Nat) (l : W8) : high (sealM a q l) (sealM b q l) := by
  refine ⟨fun n hn => ?_, fun x hx => ?_⟩
  · rw [sealRd, sealRd, (h.1 n hn).1]
    exact ⟨rfl, (h.1 n hn).2⟩
  · rw [sealByte, sealByte, h.2 x hx]
theorem high_freeQ {a b : MS} (h : high a b) : freeQ b = freeQ a := by
  unfold freeQ
  simp only [List.find?_cons, List.find?_nil, (h.1 8 (by omega)).1, (h.1 9 (by omega)).1, (h.1 10 (by omega)).1, (h.1 11 (by omega)).1]
/-- Two wards, alike but for what threads may write. -/
structure Alike (s x : WS) : Prop where
  thr : x.T = s.T
  log : x.log = s.log
  mem : high s.mem x.mem
theorem alike_end {s x : WS} (h : Alike s x) (n kind : Nat) (errno : Int) (v : VS) : Alike (endS n kind errno v s) (endS n kind errno v x) := by
  unfold endS
  rw [h.thr, h.log]
  exact ⟨rfl, rfl, high_freeT h.mem _ _⟩
theorem alike_put {s x : WS} (h : Alike s x) (n : Nat) (t : TH) : Alike (s.put n t) (x.put n t) := ⟨by unfold WS.put; rw [h.thr], h.log, h.mem⟩
theorem alike_do {s x : WS} (h : Alike s x) (n : Nat) (a : ACT) (next : Nat) : Alike (doS n a next s) (doS n a next x) := by
  unfold doS
  rw [h.thr]
  split
  · exact alike_put h _ _
  · split
    · exact alike_end h _ _ _ _
    · exact alike_end h _ _ _ _
theorem alike_seal (n : Nat) : ∀ (r : List Nat) {s x : WS}, Alike s x → Alike (sealL n r s) (sealL n r x)
  | [], s, x, h => by
    unfold sealL
    rw [h.thr]
    exact alike_put h _ _
  | i :: r, s, x, h => by
    unfold sealL
    rw [high_freeQ h.mem, h.thr]
    split
    · exact alike_end h _ _ _ _
    · exact alike_seal n r ⟨rfl, h.log, high_seal h.mem _ _⟩
/-- A thread whose call was read. -/
def Past (p : POL) (t : TH) : Prop := t.phase ≠ 1 ∧ t.phase ≠ 2 ∧ (t.phase = 5 → Sealed p t)
theorem past_idle (p : POL) (ph : Nat) (h : ph = 0 ∨ ph = 6) : Past p (idleT ph) := ⟨fun e => by have : ph = 1 := e; omega, fun e => by have : ph = 2 := e; omega, fun e => by have : ph = 5 := e; omega⟩
theorem past_end (p : POL) (n kind : Nat) (errno : Int) (v : VS) (s : WS) : Past p ((endS n kind errno v s).T n) := by
  rw [show (endS n kind errno v s).T n = idleT (if kind = 3 then 6 else 0) from updF_same _ _ _]
  exact past_idle p _ (by split <;> simp)
theorem past_seal {p : POL} {n : Nat} (hn : n < 3) : ∀ (r d : List Nat) (s : WS), Mid p n d s → d ++ r = ptsOf (s.T n).call.nr → Past p ((sealL n r s).T n)
  | [], d, s, h, hd => by
    rw [List.append_nil] at hd
    unfold sealL
    rw [T_put]
    exact ⟨fun e => by have : 5 = 1 := e; omega, fun e => by have : 5 = 2 := e; omega, fun _ => ⟨h.nr, h.dec, fun i => by rw [← hd]; exact h.sld i, h.vok⟩⟩
  | i :: r, d, s, h, hd => by
    unfold sealL
    split
    · exact past_end _ _ _ _ _ _
    · rename_i q hq
      have hi : i ∈ ptsOf (s.T n).call.nr := by rw [← hd]; simp
      have hnd := pts_nodup (s.T n).call.nr
      rw [← hd, List.nodup_append] at hnd
      have hdi : i ∉ d := fun hm => hnd.2.2 _ hm _ (by simp) rfl
      refine past_seal hn r (d ++ [i]) _ (h.next hn hi hdi hq) ?_
      rw [List.append_assoc]
      show d ++ i :: r = ptsOf (updF s.T n _ n).call.nr
      rw [updF_same]
      exact hd
/-- What comes late changes nothing. -/
theorem step_late {p : POL} {s x : WS} (h : Inv p s) (hx : Inv p x) {n : Nat} (hn : n < 3) (ha : Alike s x) (hq : Past p (s.T n)) : Alike (stepS p n s) (stepS p n x) ∧ Past p ((stepS p n s).T n) := by
  unfold stepS
  rw [ha.thr]
  split
  · rename_i hph; exact absurd hph hq.1
  · rename_i hph; exact absurd hph hq.2.1
  · rename_i hph
    refine ⟨?_, ?_⟩
    · unfold judgeS
      rw [ha.thr]
      exact alike_do ha _ _ _
    · unfold judgeS doS
      split
      · rw [T_put]
        exact ⟨fun e => by have : 4 = 1 := e; omega, fun e => by have : 4 = 2 := e; omega, fun e => by have : 4 = 5 := e; omega⟩
      · split
        · exact past_end _ _ _ _ _ _
        · exact past_end _ _ _ _ _ _
  · rename_i hph
    refine ⟨?_, ?_⟩
    · unfold sealS
      rw [ha.thr]
      exact alike_seal n _ ha
    · exact past_seal hn _ [] s (mid_start h hn hph) rfl
  · rename_i hph
    have hs := hq.2.2 hph
    have hs2 : Sealed p (x.T n) := by rw [ha.thr]; exact hs
    unfold execS
    rw [ha.thr]
    rw [if_neg (by have := hs.nr; omega)]
    rw [exec_sealed h hn hs (ptsOf (s.T n).call.nr) [] (fun _ => zeroVL) rfl fun i => by simp]
    have h2 := exec_sealed hx hn hs2 (ptsOf (x.T n).call.nr) [] (fun _ => zeroVL) rfl fun i => by simp
    rw [ha.thr] at h2
    rw [if_neg (by have := hs.nr; omega), h2]
    exact ⟨alike_end ha _ _ _ _, past_end _ _ _ _ _ _⟩
  · exact ⟨ha, hq⟩
theorem nodup_len : ∀ (l' l : List Nat), l'.Nodup → (∀ q ∈ l', q ∈ l) → l'.length ≤ l.length
  | [], l, _, _ => by simp
  | x :: r, l, hn, hs => by
    rw [List.nodup_cons] at hn
    have hx := hs x (by simp)
    have h1 := List.length_erase_of_mem hx
    have h2 := nodup_len r (l.erase x) hn.2 fun q hq => (List.mem_erase_of_ne (fun e => hn.1 (by rw [← e]; exact hq))).2 (hs q (by simp [hq]))
    have h3 := List.length_pos_of_mem hx
    rw [List.length_cons]
    omega
/-- How many pages are sealed, at most. -/
theorem cnt_le (m : MS) (l : List Nat) (h : ∀ q, 8 ≤ q → q < 12 → m.rd q = true → q ∈ l) : cntM m 4 ≤ l.length := by
  have key : ∀ j, j ≤ 4 → ∃ l' : List Nat, l'.Nodup ∧ l'.length = cntM m j ∧ ∀ q ∈ l', 8 ≤ q ∧ q < 8 + j ∧ m.rd q = true := by
    intro j
    induction j with
    | zero => exact fun _ => ⟨[], List.nodup_nil, rfl, fun q hq => by cases hq⟩
    | succ j ih =>
      intro hj
      obtain ⟨l', h1, h2, h3⟩ := ih (by omega)
      unfold cntM
      by_cases hr : m.rd (8 + j) = true
      · refine ⟨(8 + j) :: l', List.nodup_cons.2 ⟨fun hm => by have := h3 _ hm; omega, h1⟩, by rw [if_pos hr, List.length_cons, h2], fun q hq => ?_⟩
        rcases List.mem_cons.1 hq with rfl | hq
        · exact ⟨by omega, by omega, hr⟩
        · have := h3 q hq; exact ⟨this.1, by omega, this.2.2⟩
      · exact ⟨l', h1, by rw [if_neg hr, h2]; rfl, fun q hq => by have := h3 q hq; exact ⟨this.1, by omega, this.2.2⟩⟩
  obtain ⟨l', h1, h2, h3⟩ := key 4 (by omega)
  rw [← h2]
  exact nodup_len l' l h1 fun q hq => h q (h3 q hq).1 (h3 q hq).2.1 (h3 q hq).2.2
def execN (s : WS) (n : Nat) : Nat := if (s.T n).phase = 5 then 2 else 0
/-- The pages that a thread has. -/
def pagesT (t : TH) : List Nat := if t.phase = 5 then (ptsOf t.call.nr).map fun i => t.args i / 64 else []
theorem pages_len (t : TH) : (pagesT t).length ≤ if t.phase = 5 then 2 else 0 := by
  unfold pagesT
  split
  · rw [List.length_map]; exact pts_few _
  · simp
theorem sealed_few {p : POL} {s : WS} (h : Inv p s) : cntM s.mem 4 ≤ execN s 0 + execN s 1 + execN s 2 := by
  have h1 := cnt_le s.mem (pagesT (s.T 0) ++ (pagesT (s.T 1) ++ pagesT (s.T 2))) fun q h8 h12 hr => by
    obtain ⟨n, i, hn, hi, hs, ha⟩ := h.mem.own q h8 h12 hr
    have ht := h.thr n hn
    have h5 : (s.T n).phase = 5 := Classical.byContradiction fun h5 => by rw [(ht.plain h5).1 i] at hs; cases hs
    have hm : q ∈ pagesT (s.T n) := by
      unfold pagesT
      rw [if_pos h5, List.mem_map]
      rcases ht.ex h5 with hf | hf
      · rw [hf.2.1 i] at hs; cases hs
      · exact ⟨i, (hf.sld i).1 hs, by rw [ha]; omega⟩
    rcases show n = 0 ∨ n = 1 ∨ n = 2 by omega with rfl | rfl | rfl
    · exact List.mem_append_left _ hm
    · exact List.mem_append_right _ (List.mem_append_left _ hm)
    · exact List.mem_append_right _ (List.mem_append_right _ hm)
  rw [List.length_append, List.length_append] at h1
  have a0 := pages_len (s.T 0)
  have a1 := pages_len (s.T 1)
  have a2 := pages_len (s.T 2)
  unfold execN
  omega
end Go.Proofs.YtlgghomjlhnijaaGreat

/- Acts on a ward: no walk in it. -/
namespace Go.Proofs.YtlgghomjlhnijaaGreat
open Mm

theorem step_log {p : POL} (hp : polF p = 0) {s : WS} (h : Inv p s) {n : Nat} (hn : n < 3) : (stepS p n s).log.length ≤ s.log.length + 1 := by
  have h6 := (h.thr n hn).ph
  by_cases h1 : 1 ≤ (s.T n).phase ∧ (s.T n).phase ≤ 5
  · rcases (step_went hp h hn h1.1 h1.2).how with ⟨hl, _⟩ | ⟨⟨e, hl, _⟩, _⟩
    · rw [hl]; omega
    · rw [hl]; simp
  · unfold stepS
    rcases show (s.T n).phase = 0 ∨ (s.T n).phase = 6 by omega with h | h <;> rw [h] <;> exact Nat.le_succ _
theorem stepW_inv {p : POL} (hp : polF p = 0) (hq : PolOk p) {s : WS} (h : Inv p s) (n : Int) : Inv p (stepW p n s).1 := by
  unfold stepW
  split
  · split
    · exact h
    · split
      · exact h
      · exact step_inv hp hq h (by omega)
  · exact h
theorem stepW_log {p : POL} (hp : polF p = 0) {s : WS} (h : Inv p s) (n : Int) : (stepW p n s).1.log.length ≤ s.log.length + 1 := by
  unfold stepW
  split
  · split
    · exact Nat.le_succ _
    · split
      · exact Nat.le_succ _
      · exact step_log hp h (by omega)
  · exact Nat.le_succ _
theorem enterW_inv {p : POL} {s : WS} (h : Inv p s) (n : Int) {c : KL} (hc : KlOk c) : Inv p (enterW n c s).1 := by
  unfold enterW
  split
  · rename_i hn
    split
    · exact h
    · split
      · rename_i h0
        have ht := (h.thr n.toNat (by omega)).off (.inl h0)
        have hs : (enterT c).sld = (s.T n.toNat).sld := by rw [ht]; rfl
        exact h.put hs (fun i hi => by cases hi) (enter_ok p hc)
      · exact h
  · exact h
theorem enterW_log (n : Int) (c : KL) (s : WS) : (enterW n c s).1.log = s.log := by
  unfold enterW
  split
  · split
    · rfl
    · split <;> rfl
  · rfl
theorem mapW_high (n : Int) (b : Bool) (m : MS) : high m (mapW n b m).1 ∧ (bytesOk m → bytesOk (mapW n b m).1) := by
  unfold mapW
  split
  · exact ⟨high_map m _ (by omega) b, fun h => h⟩
  · exact ⟨high_refl m, fun h => h⟩
theorem unmapW_high (n : Int) (m : MS) : high m (unmapW n m).1 ∧ (bytesOk m → bytesOk (unmapW n m).1) := by
  unfold unmapW
  split
  · exact ⟨high_drop m _ (by omega), fun hb => bytesOk_write (m := setWt (setRd m n.toNat false) n.toNat false) hb _ _⟩
  · exact ⟨high_refl m, fun h => h⟩
theorem putW_high {a : Nat} (ha : a < 18446744073709551616) (l : ByteArray) {m : MS} (hf : Fine m) : high m (putW a l m).1 ∧ (bytesOk m → bytesOk (putW a l m).1) := by
  unfold putW
  split
  · rename_i hg
    exact ⟨high_put m a _ ha hf.wt fun i hi => hg i (by rw [Lib.size_eq]; exact hi), fun hb => bytesOk_write hb _ _⟩
  · exact ⟨high_refl m, fun h => h⟩
/-- An act's call. -/
def kcall (x : AC) : KL := ⟨x.c0.toNat, x.c1.toNat, x.c2.toNat, x.c3.toNat, x.c4.toNat, x.c5.toNat⟩
def stepN (p : POL) (n : Int) : Nat → WS → WS
  | 0, s => s
  | k + 1, s => (stepW p n (stepN p n k s)).1
theorem stepN_inv {p : POL} (hp : polF p = 0) (hq : PolOk p) {s : WS} (h : Inv p s) (n : Int) : ∀ k, Inv p (stepN p n k s)
  | 0 => h
  | k + 1 => stepW_inv hp hq (stepN_inv hp hq h n k) n
theorem stepN_log {p : POL} (hp : polF p = 0) (hq : PolOk p) {s : WS} (h : Inv p s) (n : Int) : ∀ k, (stepN p n k s).log.length ≤ s.log.length + k
  | 0 => Nat.le_refl _
  | k + 1 => by
    have h1 := stepW_log hp (stepN_inv hp hq h n k) n
    have h2 := stepN_log hp hq h n k
    show (stepW p n (stepN p n k s)).1.log.length ≤ _
    omega
noncomputable def didS (p : POL) (x : AC) (s : WS) : WS :=
  if (x.kind.toList == [109, 97, 112]) = true then { s with mem := (mapW x.n x.wr s.mem).1 }
  else if (x.kind.toList == [117, 110, 109, 97, 112]) = true then { s with mem := (unmapW x.n s.mem).1 }
  else if (x.kind.toList == [112, 117, 116]) = true then { s with mem := (putW x.a x.s s.mem).1 }
  else if (x.kind.toList == [101, 110, 116, 101, 114]) = true then (enterW x.n (kcall x) s).1
  else if (x.kind.toList == [115, 116, 101, 112, 115]) = true then stepN p x.n (min x.a 90) s
  else (stepW p x.n s).1
structure AcDo (x : AC) : Prop where
  a : x.a < 18446744073709551616
  kl : KlOk (kcall x)
theorem did_inv {p : POL} (hp : polF p = 0) (hq : PolOk p) {s : WS} (h : Inv p s) {x : AC} (hx : AcDo x) : Inv p (didS p x s) := by
  unfold didS
  split
  · exact mem_inv h (mapW_high _ _ _).1 (mapW_high _ _ _).2
  · split
    · exact mem_inv h (unmapW_high _ _).1 (unmapW_high _ _).2
    · split
      · exact mem_inv h (putW_high hx.a _ h.mem.fine).1 (putW_high hx.a _ h.mem.fine).2
      · split
        · exact enterW_inv h _ hx.kl
        · split
          · exact stepN_inv hp hq h _ _
          · exact stepW_inv hp hq h _
theorem did_log {p : POL} (hp : polF p = 0) (hq : PolOk p) {s : WS} (h : Inv p s) (x : AC) : (didS p x s).log.length ≤ s.log.length + 90 := by
  unfold didS
  split
  · exact Nat.le_add_right _ _
  · split
    · exact Nat.le_add_right _ _
    · split
      · exact Nat.le_add_right _ _
      · split
        · rw [enterW_log]; exact Nat.le_add_right _ _
        · split
          · have := stepN_log hp hq h x.n (min x.a 90); omega
          · have := stepW_log hp h x.n; omega
/-- Another thread's steps: a thread is as it was, and the log has no more of it. -/
structure Apart (n : Nat) (s s' : WS) : Prop where
  thr : s'.T n = s.T n
  log : ∃ l, s'.log = s.log ++ l ∧ ∀ e ∈ l, e.thr ≠ n
theorem Apart.refl (n : Nat) (s : WS) : Apart n s s := ⟨rfl, [], by simp, fun e he => by cases he⟩
theorem Apart.trans {n : Nat} {a b c : WS} (h : Apart n a b) (k : Apart n b c) : Apart n a c := by
  obtain ⟨l1, e1, f1⟩ := h.log
  obtain ⟨l2, e2, f2⟩ := k.log
  refine ⟨k.thr.trans h.thr, l1 ++ l2, by rw [e2, e1, List.append_assoc], fun e he => ?_⟩
  rcases List.mem_append.1 he with h1 | h1
  · exact f1 e h1
  · exact f2 e h1
theorem stepW_apart {p : POL} (hp : polF p = 0) {s : WS} (h : Inv p s) {n : Nat} {k : Int} (hk : k ≠ n) : Apart n s (stepW p k s).1 := by
  unfold stepW
  split
  · rename_i hr
    split
    · exact Apart.refl _ _
    · rename_i h6
      split
      · exact Apart.refl _ _
      · rename_i h0
        have hl : k.toNat < 3 := by omega
        have h7 := (h.thr _ hl).ph
        have hw := step_went hp h hl (by omega) (by omega)
        refine ⟨hw.oth n (by omega), ?_⟩
        rcases hw.how with ⟨hl, _⟩ | ⟨⟨e, hl, ht, _⟩, _⟩
        · exact ⟨[], by simp [hl], fun e he => by cases he⟩
        · refine ⟨[e], hl, fun x hx => ?_⟩
          rw [List.mem_singleton.1 hx, ht]
          omega
  · exact Apart.refl _ _
theorem stepN_apart {p : POL} (hp : polF p = 0) (hq : PolOk p) {s : WS} (h : Inv p s) {n : Nat} {k : Int} (hk : k ≠ n) : ∀ j, Apart n s (stepN p k j s)
  | 0 => Apart.refl _ _
  | j + 1 => (stepN_apart hp hq h hk j).trans (stepW_apart hp (stepN_inv hp hq h k j) hk)
theorem did_apart {p : POL} (hp : polF p = 0) (hq : PolOk p) {s : WS} (h : Inv p s) {x : AC} {n : Nat} (hn : x.n ≠ n) (he : (x.kind.toList == [101, 110, 116, 101, 114]) = false) : Apart n s (didS p x s) := by
  unfold didS
  have hm : ∀ m : MS, Apart n s { s with mem := m } := fun m => ⟨rfl, [], by simp, fun e he => by cases he⟩
  split
  · exact hm _
  · split
    · exact hm _
    · split
      · exact hm _
      · rw [if_neg (by rw [he]; exact Bool.false_ne_true)]
        split
        · exact stepN_apart hp hq h hn _
        · exact stepW_apart hp h hn
/-- A thread's own entries, of a log from a place on. -/
def mineL (n was : Nat) (l : List EN) : List EN := (l.drop was).filter fun e => e.thr == n
/-- A call that was entered: it runs, or it has ended. -/
def Runs' (n : Nat) (c : KL) (was k : Nat) (s : WS) : Prop :=
  was ≤ s.log.length ∧ (((s.T n).call = c ∧ 1 ≤ (s.T n).phase ∧ (s.T n).phase ≤ 5 ∧ rank (s.T n) + k ≤ 86 ∧ mineL n was s.log = []) ∨
    (((s.T n).phase = 0 ∨ (s.T n).phase = 6) ∧ ∃ e, mineL n was s.log = [e] ∧ e.call = c))
theorem mine_app (n was : Nat) (l r : List EN) (h : was ≤ l.length) : mineL n was (l ++ r) = mineL n was l ++ r.filter fun e => e.thr == n := by
  unfold mineL
  rw [List.drop_append_of_le_length h, List.filter_append]
theorem runs_start {n : Nat} {c : KL} {s : WS} (h : s.T n = enterT c) : Runs' n c s.log.length 0 s := by
  refine ⟨Nat.le_refl _, .inl ⟨by rw [h]; rfl, by rw [h]; exact Nat.le_refl 1, by rw [h]; show 1 ≤ 5; omega, ?_, by unfold mineL; simp⟩⟩
  rw [h]
  exact Nat.le_refl _
theorem runs_apart {n was k : Nat} {c : KL} {s s' : WS} (h : Runs' n c was k s) (ha : Apart n s s') : Runs' n c was k s' := by
  obtain ⟨hw, h⟩ := h
  obtain ⟨l, hl, hn⟩ := ha.log
  have hm : mineL n was s'.log = mineL n was s.log := by
    rw [hl, mine_app _ _ _ _ hw, List.filter_eq_nil_iff.2 fun e he => by simpa using hn e he, List.append_nil]
  refine ⟨by rw [hl, List.length_append]; omega, ?_⟩
  rw [ha.thr, hm]
  exact h
theorem runs_step {p : POL} (hp : polF p = 0) {s : WS} (hi : Inv p s) {n was k : Nat} (hn : n < 3) {c : KL} (h : Runs' n c was k s) (h1 : 1 ≤ (s.T n).phase) (h5 : (s.T n).phase ≤ 5) : Runs' n c was (k + 1) (stepS p n s) := by
  obtain ⟨hw, h | h⟩ := h
  · obtain ⟨hc, _, _, hr, hm⟩ := h
    have ht := step_went hp hi hn h1 h5
    have hr1 : 1 ≤ rank (s.T n) := by
      refine Classical.byContradiction fun h0 => ?_
      have := rank_zero (hi.thr n hn) (by omega)
      omega
    rcases ht.how with ⟨hl, hc', a1, a5⟩ | ⟨⟨e, hl, he, hec⟩, hph⟩
    · refine ⟨by rw [hl]; exact hw, .inl ⟨hc'.trans hc, a1, a5, ?_, by rw [hl]; exact hm⟩⟩
      have := ht.less hr1
      omega
    · refine ⟨by rw [hl, List.length_append]; omega, .inr ⟨hph, e, ?_, hec.trans hc⟩⟩
      rw [hl, mine_app _ _ _ _ hw, hm, List.nil_append]
      simp [he]
  · omega
theorem runs_end {p : POL} {s : WS} (hi : Inv p s) {n was : Nat} (hn : n < 3) {c : KL} (h : Runs' n c was 86 s) : ((s.T n).phase = 0 ∨ (s.T n).phase = 6) ∧ ∃ e, mineL n was s.log = [e] ∧ e.call = c := by
  obtain ⟨_, ⟨_, h1, h5, hr, _⟩ | h⟩ := h
  · have := rank_zero (hi.thr n hn) (by omega)
    omega
  · exact h
end Go.Proofs.YtlgghomjlhnijaaGreat

/- Copy of memory. -/
namespace Go.Proofs.YtlgghomjlhnijaaGreat.Bp
end Go.Proofs.YtlgghomjlhnijaaGreat.Bp
namespace Go.Proofs.YtlgghomjlhnijaaGreat.Mm
open Go.Proofs.YtlgghomjlhnijaaGreat.Bp
open Go.RowKit

theorem VA_one (n : Nat) (f : Nat → Value) (h : ∀ i, (f i).oneCell' = true) : (VA n f).all (·.oneCell') = true := by
  rw [Array.all_eq_true_iff_forall_mem]
  intro v hv
  obtain ⟨i, hi, rfl⟩ := Array.mem_iff_getElem.1 hv
  have h1 := VA_get n f i (by rw [VA_size] at hi; exact hi)
  rw [Array.getElem?_eq_getElem hi] at h1
  rw [Option.some.inj h1]
  exact h i
theorem cellM_one (m : MS) (i : Nat) : (cellM m i).oneCell' = true := by
  unfold cellM
  split
  · rfl
  · split <;> rfl
theorem size_mem : (Tryz.prog.info? 89).map (·.size) = some 792 := by kernel_rfl

theorem copy_any {g : Nat} {m : MS} {W : World} (h : IsM g m W) :
    Calls Tryz.prog 27 #[.pointer (some ⟨g, 0, none⟩)] W fun e w' => e = .returned (.pointer (some ⟨W.heap.size, 0, none⟩)) ∧ IsM W.heap.size m w' ∧ Below W.heap.size W w' := by
  have HM := hide h
  clear h
  go_enter Tryz.func27, Tryz.ntmps27
  go_wp2_with (first
    | (refine wpList_load_row rfl 89 _ rfl g ?_ 89 (VA 792 (cellM m)) (0, 0) _ ?_ Tryz.underlying89 rfl (by rw [VA_size]; exact size_mem) ?_; (· rfl); (· exact HM.out))
    | (refine wpList_store_row rfl 89 _ _ rfl W.heap.size (VA 792 (cellM m)) ?_ ?_ 89 Tryz.zeroCells89 ?_ (by rw [VA_size]; exact size_mem) (by rw [zero_cells, VA_size, VA_size]) (VA_one _ _ (cellM_one m)) ?_; (· rfl); (· rfl); (· exact heap_alloc_new W _)))
  go_ret
  refine ⟨rfl, ?_, ?_⟩
  · show (World.setRow _ _ _).heap[_]? = _
    exact setRow_heap _ _ _ _ _ _ (heap_alloc_new W _)
  · rw [World.setRow_alloc_new]
    exact (Below.refl _ _).alloc (Nat.le_refl _) _
end Go.Proofs.YtlgghomjlhnijaaGreat.Mm

/- A ward in memory: its block, cell by cell. -/
namespace Go.Proofs.YtlgghomjlhnijaaGreat
open Go.RowKit Mm

/-- A policy, and where its rules lie. -/
structure PV where
  p : POL
  oa : Option Addr
  cap : Nat
  bd : Nat
/-- A thread's cells. -/
def cellT (t : TH) (j : Nat) : Value :=
  if j = 0 then .int .i64 t.phase else if j = 1 then .int .u32 t.call.arch else if j = 2 then .int .u32 t.call.nr
  else if j < 7 then .int .u64 (regN t.call (j - 3)) else if j < 11 then .int .u64 (t.args (j - 7)) else if j < 15 then .bool (t.sld (j - 11))
  else if j = 15 then .int .i64 t.seen else if j = 16 then .string (bs t.read)
  else if (j - 17) % 3 = 0 then .string (t.vals ((j - 17) / 3)).path else if (j - 17) % 3 = 1 then .int .u32 (t.vals ((j - 17) / 3)).ip else .int .i64 (t.vals ((j - 17) / 3)).port
/-- A ward's cells. -/
def cellW (P : PV) (gm : Nat) (T : Nat → TH) (lv : Value) (i : Nat) : Value :=
  if i = 0 then .slice P.oa P.p.rules.length P.cap else if i = 1 then .int .i64 P.p.els.kind else if i = 2 then .int .i64 P.p.els.errno
  else if i = 3 then .pointer (some ⟨gm, 0, none⟩) else if i < 91 then cellT (T ((i - 4) / 29)) ((i - 4) % 29) else lv
theorem cellW_T (P : PV) (gm : Nat) (T : Nat → TH) (lv : Value) (n j : Nat) (hn : n < 3) (hj : j < 29) : cellW P gm T lv (4 + n * 29 + j) = cellT (T n) j := by
  unfold cellW
  rw [if_neg (by omega), if_neg (by omega), if_neg (by omega), if_neg (by omega), if_pos (by omega), show (4 + n * 29 + j - 4) / 29 = n by omega, show (4 + n * 29 + j - 4) % 29 = j by omega]
/-- Cells of a thread written, one of them or more. -/
theorem updW_T (P : PV) (gm : Nat) (T : Nat → TH) (lv : Value) (n : Nat) (hn : n < 3) (t : TH) (f : Nat → Value) (h1 : ∀ j, j < 29 → f (4 + n * 29 + j) = cellT t j) (h2 : ∀ i, (∀ j, j < 29 → i ≠ 4 + n * 29 + j) → f i = cellW P gm T lv i) : VA 92 f = VA 92 (cellW P gm (updF T n t) lv) := by
  refine VA_congr _ _ _ fun i hi => ?_
  by_cases hr : 4 + n * 29 ≤ i ∧ i < 4 + n * 29 + 29
  · obtain ⟨j, hj, rfl⟩ : ∃ j, j < 29 ∧ i = 4 + n * 29 + j := ⟨i - (4 + n * 29), by omega, by omega⟩
    rw [h1 j hj, cellW_T _ _ _ _ _ _ hn hj, updF_same]
  · rw [h2 i fun j hj => by omega]
    unfold cellW
    split
    · rfl
    · split
      · rfl
      · split
        · rfl
        · split
          · rfl
          · split
            · rw [updF_other]
              omega
            · rfl
theorem updW_one (P : PV) (gm : Nat) (T : Nat → TH) (lv : Value) (n j : Nat) (hn : n < 3) (hj : j < 29) (v : Value) (t : TH) (h : ∀ k, k < 29 → cellT t k = if k = j then v else cellT (T n) k) : VA 92 (updV (cellW P gm T lv) (4 + n * 29 + j) v) = VA 92 (cellW P gm (updF T n t) lv) :=
  updW_T P gm T lv n hn t _ (fun k hk => by
    unfold updV
    rw [h k hk]
    by_cases hkj : k = j
    · rw [if_pos (by omega), if_pos hkj]
    · rw [if_neg (by omega), if_neg hkj, cellW_T _ _ _ _ _ _ hn hk]) fun i hi => by
    unfold updV
    by_cases hij : i = 4 + n * 29 + j
    · exact absurd hij (hi j hj)
    · rw [if_neg hij]
/-- An entry's cells. -/
def entA (kind thr : Int) (k : KL) (v : VS) (errno : Int) : Array Value := #[.int .i64 kind, .int .i64 thr, .int .u32 k.arch, .int .u32 k.nr, .int .u64 k.a0, .int .u64 k.a1, .int .u64 k.a2, .int .u64 k.a3,
  .string v.v0.path, .int .u32 v.v0.ip, .int .i64 v.v0.port, .string v.v1.path, .int .u32 v.v1.ip, .int .i64 v.v1.port, .string v.v2.path, .int .u32 v.v2.ip, .int .i64 v.v2.port, .string v.v3.path, .int .u32 v.v3.ip, .int .i64 v.v3.port, .int .i64 errno]
def entE (e : EN) : Array Value := entA e.kind e.thr e.call e.vals e.errno
def flatE (l : List EN) : List Value := l.flatMap fun e => (entE e).toList
theorem flatE_snoc (l : List EN) (e : EN) : flatE (l ++ [e]) = flatE l ++ (entE e).toList := by simp [flatE]
/-- A ward lies in block g, its memory in gm, its log where lv says. -/
structure WX (g gm : Nat) (P : PV) (s : WS) (lv : Value) (W : World) : Prop where
  row : W.heap[g]? = some (.cells (VA 92 (cellW P gm s.T lv)) 79 (0, 0))
  mem : IsM gm s.mem W
  own : W.ownsRow 0 54 21 lv s.log.length (flatE s.log)
  ne : gm ≠ g
  nl : ∀ k, lv.ownBlock = some k → k ≠ g ∧ k ≠ gm
  bd : P.bd ≤ W.heap.size
  pol : ∀ V : World, (∀ k, k < P.bd → k ≠ g → k ≠ gm → lv.ownBlock ≠ some k → V.heap[k]? = W.heap[k]?) → P.bd ≤ V.heap.size → IsPol P.oa P.cap P.p V
/-- Only a ward's own blocks, and new ones, have turned. -/
structure Fr (g gm : Nat) (lv lv' : Value) (W V : World) : Prop where
  os : V.os = W.os
  tape : V.tape = W.tape
  output : V.output = W.output
  size : W.heap.size ≤ V.heap.size
  block : ∀ k, k < W.heap.size → k ≠ g → k ≠ gm → lv.ownBlock ≠ some k → V.heap[k]? = W.heap[k]?
  new : ∀ k, lv'.ownBlock = some k → lv.ownBlock = some k ∨ W.heap.size ≤ k
theorem Fr.refl (g gm : Nat) (lv : Value) (W : World) : Fr g gm lv lv W W := ⟨rfl, rfl, rfl, Nat.le_refl _, fun _ _ _ _ _ => rfl, fun _ h => .inl h⟩
theorem Fr.trans {g gm : Nat} {l1 l2 l3 : Value} {a b c : World} (h : Fr g gm l1 l2 a b) (k : Fr g gm l2 l3 b c) : Fr g gm l1 l3 a c :=
  ⟨k.os.trans h.os, k.tape.trans h.tape, k.output.trans h.output, Nat.le_trans h.size k.size, fun i hi h1 h2 h3 => (k.block i (Nat.lt_of_lt_of_le hi h.size) h1 h2 (fun e => by
    rcases h.new i e with h4 | h4
    · exact h3 h4
    · omega)).trans (h.block i hi h1 h2 h3), fun i hi => by
    rcases k.new i hi with h4 | h4
    · exact h.new i h4
    · exact .inr (Nat.le_trans h.size h4)⟩
theorem Fr.of {g gm : Nat} (lv : Value) {a b : World} (h : Below a.heap.size a b) : Fr g gm lv lv a b := ⟨h.os, h.tape, h.output, h.size, fun k hk _ _ _ => h.block k hk, fun _ h => .inl h⟩
theorem Fr.grown {g gm k0 : Nat} (lv : Value) {a b : World} (h : a.grownBy b (some k0)) (hk : k0 = g ∨ k0 = gm) : Fr g gm lv lv a b := ⟨h.os, h.tape, h.output, h.size, fun k hk1 h1 h2 _ => h.block k hk1 (fun e => by cases e; omega), fun _ h => .inl h⟩
theorem Fr.below {g gm B : Nat} {l1 l2 : Value} {w a b : World} (h : Fr g gm l1 l2 a b) (hb : Below B w a) (hB : B ≤ a.heap.size) (hg : B ≤ g) (hm : B ≤ gm) (hl : ∀ k, l1.ownBlock = some k → B ≤ k) : Below B w b := hb.trans ⟨h.os, h.tape, h.output, h.size, fun k hk => h.block k (by omega) (by omega) (by omega) (fun e => by have := hl k e; omega)⟩
theorem WX.glt {g gm : Nat} {P : PV} {s : WS} {lv : Value} {W : World} (h : WX g gm P s lv W) : g < W.heap.size := (Array.getElem?_eq_some_iff.1 h.row).1
theorem WX.mlt {g gm : Nat} {P : PV} {s : WS} {lv : Value} {W : World} (h : WX g gm P s lv W) : gm < W.heap.size := (Array.getElem?_eq_some_iff.1 h.mem).1
theorem WX.cell {g gm : Nat} {P : PV} {s : WS} {lv : Value} {W : World} (h : WX g gm P s lv W) (i : Nat) (hi : i < 92) : W.cell? ⟨g, i, none⟩ = some (cellW P gm s.T lv i) := by rw [cell_of_row _ _ i _ _ _ h.row]; exact VA_get _ _ _ hi
theorem WX.fro {g gm : Nat} {P : PV} {s : WS} {lv : Value} {W : World} (h : WX g gm P s lv W) (i : Nat) : W.frozen? ⟨g, i, none⟩ = false := frozen_of_row _ _ i _ _ h.row
theorem WX.th {g gm : Nat} {P : PV} {s : WS} {lv : Value} {W : World} (h : WX g gm P s lv W) (n j : Nat) (hn : n < 3) (hj : j < 29) : W.cell? ⟨g, 4 + n * 29 + j, none⟩ = some (cellT (s.T n) j) := by rw [h.cell _ (by omega), cellW_T _ _ _ _ _ _ hn hj]
theorem WX.phase {g gm : Nat} {P : PV} {s : WS} {lv : Value} {W : World} (h : WX g gm P s lv W) (n : Nat) (hn : n < 3) : W.cell? ⟨g, 4 + n * 29, none⟩ = some (.int .i64 (s.T n).phase) := h.th n 0 hn (by omega)
theorem WX.ptr {g gm : Nat} {P : PV} {s : WS} {lv : Value} {W : World} (h : WX g gm P s lv W) : W.cell? ⟨g, 3, none⟩ = some (.pointer (some ⟨gm, 0, none⟩)) := h.cell 3 (by omega)
theorem WX.logc {g gm : Nat} {P : PV} {s : WS} {lv : Value} {W : World} (h : WX g gm P s lv W) : W.cell? ⟨g, 91, none⟩ = some lv := h.cell 91 (by omega)
theorem cellT_call (t : TH) : cellT t 1 = .int .u32 t.call.arch ∧ cellT t 2 = .int .u32 t.call.nr ∧ cellT t 3 = .int .u64 t.call.a0 ∧ cellT t 4 = .int .u64 t.call.a1 ∧ cellT t 5 = .int .u64 t.call.a2 ∧ cellT t 6 = .int .u64 t.call.a3 := ⟨rfl, rfl, rfl, rfl, rfl, rfl⟩
theorem cellT_arg (t : TH) (i : Nat) (hi : i < 4) : cellT t (7 + i) = .int .u64 (t.args i) := by
  unfold cellT
  rw [if_neg (by omega), if_neg (by omega), if_neg (by omega), if_neg (by omega), if_pos (by omega), show 7 + i - 7 = i by omega]
theorem cellT_sld (t : TH) (i : Nat) (hi : i < 4) : cellT t (11 + i) = .bool (t.sld i) := by
  unfold cellT
  rw [if_neg (by omega), if_neg (by omega), if_neg (by omega), if_neg (by omega), if_neg (by omega), if_pos (by omega), show 11 + i - 11 = i by omega]
theorem cellT_val (t : TH) (i : Nat) : cellT t (17 + i * 3) = .string (t.vals i).path ∧ cellT t (17 + i * 3 + 1) = .int .u32 (t.vals i).ip ∧ cellT t (17 + i * 3 + 2) = .int .i64 (t.vals i).port := by
  unfold cellT
  refine ⟨?_, ?_, ?_⟩
  · rw [if_neg (by omega), if_neg (by omega), if_neg (by omega), if_neg (by omega), if_neg (by omega), if_neg (by omega), if_neg (by omega), if_neg (by omega), if_pos (by omega), show (17 + i * 3 - 17) / 3 = i by omega]
  · rw [if_neg (by omega), if_neg (by omega), if_neg (by omega), if_neg (by omega), if_neg (by omega), if_neg (by omega), if_neg (by omega), if_neg (by omega), if_neg (by omega), if_pos (by omega), show (17 + i * 3 + 1 - 17) / 3 = i by omega]
  · rw [if_neg (by omega), if_neg (by omega), if_neg (by omega), if_neg (by omega), if_neg (by omega), if_neg (by omega), if_neg (by omega), if_neg (by omega), if_neg (by omega), if_neg (by omega), show (17 + i * 3 + 2 - 17) / 3 = i by omega]
theorem own_keep {W V : World} {base e size n : Nat} {v : Value} {xs : List Value} {k : Nat} (h : W.ownsRow base e size v n xs) (hg : W.grownBy V (some k)) (hne : v.ownBlock ≠ some k) : V.ownsRow base e size v n xs := h.kept hg (.inr hne)
theorem WX.on {g gm : Nat} {P : PV} {s : WS} {lv : Value} {W V : World} (h : WX g gm P s lv W) (hb : Below W.heap.size W V) : WX g gm P s lv V :=
  ⟨(hb.block g h.glt).trans h.row, h.mem.on hb, own_on h.own hb, h.ne, h.nl, Nat.le_trans h.bd hb.size, fun U hU hs => h.pol U (fun k hk h1 h2 h3 => (hU k hk h1 h2 h3).trans (hb.block k (Nat.lt_of_lt_of_le hk h.bd))) hs⟩
/-- Memory has turned. -/
theorem WX.memo {g gm : Nat} {P : PV} {s : WS} {lv : Value} {W V : World} (h : WX g gm P s lv W) {m : MS} (hm : IsM gm m V) (hg : W.grownBy V (some gm)) : WX g gm P { s with mem := m } lv V :=
  ⟨(hg.block g h.glt (fun e => h.ne (Option.some.inj e).symm)).trans h.row, hm, own_keep h.own hg (fun e => (h.nl gm e).2 rfl), h.ne, h.nl, Nat.le_trans h.bd hg.size, fun U hU hs => h.pol U (fun k hk h1 h2 h3 => (hU k hk h1 h2 h3).trans (hg.block k (Nat.lt_of_lt_of_le hk h.bd) (fun e => h2 (Option.some.inj e)))) hs⟩
theorem setRow_grown (W : World) (g : Nat) (c : Array Value) : W.grownBy (W.setRow g c) (some g) := ⟨rfl, rfl, rfl, by rw [row_size]; exact Nat.le_refl _, fun k _ hn => row_heap W g k c (fun e => hn (by rw [e]))⟩
/-- The ward's own block has turned: its threads. -/
theorem WX.rows {g gm : Nat} {P : PV} {s : WS} {lv : Value} {W : World} (h : WX g gm P s lv W) (T : Nat → TH) {c : Array Value} (hc : c = VA 92 (cellW P gm T lv)) : WX g gm P { s with T := T } lv (W.setRow g c) := by
  have hg := setRow_grown W g c
  refine ⟨by rw [← hc]; exact setRow_heap _ _ _ _ _ _ h.row, (hg.block gm h.mlt (fun e => h.ne (Option.some.inj e))).trans h.mem, own_keep h.own hg (fun e => (h.nl g e).1 rfl), h.ne, h.nl, by rw [row_size]; exact h.bd, fun U hU hs => h.pol U (fun k hk h1 h2 h3 => (hU k hk h1 h2 h3).trans (row_heap W g k c h1)) hs⟩
theorem WX.setT {g gm : Nat} {P : PV} {s : WS} {lv : Value} {W : World} (h : WX g gm P s lv W) (n j : Nat) (hn : n < 3) (hj : j < 29) (v : Value) (t : TH) (hc : ∀ k, k < 29 → cellT t k = if k = j then v else cellT (s.T n) k) : WX g gm P (s.put n t) lv (W.setCell ⟨g, 4 + n * 29 + j, none⟩ v) := by
  rw [setCell_eq_setRow _ _ _ _ _ _ _ h.row, VA_set]
  exact h.rows _ (updW_one P gm s.T lv n j hn hj v t hc)
theorem Fr.set {g gm : Nat} (lv : Value) (W : World) (o : Nat) (v : Value) : Fr g gm lv lv W (W.setCell ⟨g, o, none⟩ v) := Fr.grown lv (k0 := g) (But.set g o W v).grown (.inl rfl)
/-- A block that is not the ward's own has turned. -/
theorem WX.other {g gm : Nat} {P : PV} {s : WS} {lv : Value} {W V : World} (h : WX g gm P s lv W) {r : Nat} (hg : W.grownBy V (some r)) (h1 : r ≠ g) (h2 : r ≠ gm) (h3 : lv.ownBlock ≠ some r) (hb : P.bd ≤ r) : WX g gm P s lv V :=
  ⟨(hg.block g h.glt (fun e => h1 (Option.some.inj e).symm)).trans h.row, (hg.block gm h.mlt (fun e => h2 (Option.some.inj e).symm)).trans h.mem, own_keep h.own hg h3, h.ne, h.nl, Nat.le_trans h.bd hg.size, fun U hU hs => h.pol U (fun k hk q1 q2 q3 => (hU k hk q1 q2 q3).trans (hg.block k (Nat.lt_of_lt_of_le hk h.bd) (fun e => by cases e; omega))) hs⟩
/-- The log has turned: one entry more. -/
theorem WX.more {g gm : Nat} {P : PV} {s : WS} {lv lv' : Value} {W V : World} (h : WX g gm P s lv W) {l : List EN} (hg : W.grownBy V lv.ownBlock) (hl : ∀ k, lv'.ownBlock = some k → lv.ownBlock = some k ∨ W.heap.size ≤ k) (ho : V.ownsRow 0 54 21 lv' l.length (flatE l)) :
    WX g gm P { s with log := l } lv' (V.setCell ⟨g, 91, none⟩ lv') := by
  have hrow : V.heap[g]? = some (.cells (VA 92 (cellW P gm s.T lv)) 79 (0, 0)) := (hg.block g h.glt (fun e => (h.nl g e.symm).1 rfl)).trans h.row
  have hmem : IsM gm s.mem V := (hg.block gm h.mlt (fun e => (h.nl gm e.symm).2 rfl)).trans h.mem
  have hnl : ∀ k, lv'.ownBlock = some k → k ≠ g ∧ k ≠ gm := fun k hk => by
    rcases hl k hk with h1 | h1
    · exact h.nl k h1
    · have := h.glt
      have := h.mlt
      exact ⟨by omega, by omega⟩
  have hset : V.setCell ⟨g, 91, none⟩ lv' = V.setRow g (VA 92 (cellW P gm s.T lv')) := by
    rw [setCell_eq_setRow _ _ 91 _ _ _ _ hrow, VA_set]
    congr 1
    refine VA_congr _ _ _ fun i hi => ?_
    unfold updV cellW
    by_cases hi91 : i = 91
    · subst hi91
      rfl
    · rw [if_neg hi91]
      split
      · rfl
      · split
        · rfl
        · split
          · rfl
          · split
            · rfl
            · rw [if_pos (by omega), if_pos (by omega)]
  rw [hset]
  have hg2 := setRow_grown V g (VA 92 (cellW P gm s.T lv'))
  have hgl : g < V.heap.size := (Array.getElem?_eq_some_iff.1 hrow).1
  refine ⟨setRow_heap _ _ _ _ _ _ hrow, (hg2.block gm (Array.getElem?_eq_some_iff.1 hmem).1 (fun e => h.ne (Option.some.inj e))).trans hmem, own_keep ho hg2 (fun e => (hnl g e).1 rfl), h.ne, hnl, by rw [row_size]; exact Nat.le_trans h.bd hg.size, fun U hU hs => h.pol U (fun k hk h1 h2 h3 => ?_) hs⟩
  have h4 : lv'.ownBlock ≠ some k := fun e => by
    rcases hl k e with h5 | h5
    · exact h3 h5
    · have := h.bd; omega
  exact ((hU k hk h1 h2 h4).trans (row_heap V g k _ h1)).trans (hg.block k (Nat.lt_of_lt_of_le hk h.bd) (fun e => h3 e.symm))
theorem WX.setPhase {g gm : Nat} {P : PV} {s : WS} {lv : Value} {W : World} (h : WX g gm P s lv W) (n k : Nat) (hn : n < 3) : WX g gm P (s.put n { s.T n with phase := k }) lv (W.setCell ⟨g, 4 + n * 29, none⟩ (.int .i64 k)) :=
  h.setT n 0 hn (by omega) _ _ fun j _ => by
    by_cases hj : j = 0
    · subst hj; rfl
    · rw [if_neg hj]; unfold cellT; rw [if_neg hj, if_neg hj]
end Go.Proofs.YtlgghomjlhnijaaGreat

/- errors.Is at errors of the project's own. -/
namespace Go.Proofs.YtlgghomjlhnijaaGreat
open Go.RowKit Go.Extern.Stop Go.Stop Go.Extern

theorem is_typeOf (v : Value) (w : World) : (Extern.ReflectliteType.typeOf #[.iface 93 v]).run Tryz.prog w = .ok (.iface 176 (.agg #[.pointer (some ⟨1, 93, none⟩)])) w := by kernel_rfl
theorem is_comparable (w : World) : ((Extern.ReflectliteType.method fun t => do Go.Extern.Rtype.noPackHeld "Comparable" t; (fun a => Value.bool a.comparable) <$> typeInfo t) #[.agg #[.pointer (some ⟨1, 93, none⟩)]]).run Tryz.prog w = .ok (.bool true) w := by kernel_rfl
theorem no_is (v : Value) (xT : TypeId) (w : World) : (Instr.typeAssert (.iface 93 v) xT 178 true).run Tryz.prog w = .ok (.tuple #[.nilIface, .bool false]) w := run_typeAssert_lacksB Tryz.underlying178 (by kernel_rfl) (by kernel_rfl) v xT w
theorem no_unwrap (v : Value) (xT : TypeId) (w : World) : (Instr.typeAssert (.iface 93 v) xT 181 true).run Tryz.prog w = .ok (.tuple #[.nilIface, .bool false]) w := run_typeAssert_lacksB Tryz.underlying181 (by kernel_rfl) (by kernel_rfl) v xT w
theorem no_unwraps (v : Value) (xT : TypeId) (w : World) : (Instr.typeAssert (.iface 93 v) xT 183 true).run Tryz.prog w = .ok (.tuple #[.nilIface, .bool false]) w := run_typeAssert_lacksB Tryz.underlying183 (by kernel_rfl) (by kernel_rfl) v xT w

set_option maxRecDepth 100000 in
set_option maxHeartbeats 1000000 in
theorem eis_any (a b : Int) (w : World) : Calls Tryz.prog 92 #[.iface 93 (.int .i64 a), .iface 93 (.int .i64 b), .bool true] w fun e w' => e = .returned (.bool (a == b)) ∧ w' = w := by
  have nE := no_is
  have uE := no_unwrap
  have vE := no_unwraps
  have eQ := fun w => Lib.run_eql_iface_int (P := Tryz.prog) w (t := 32) (tx := 93) (k := .i64) a b Tryz.underlying32 (by kernel_rfl) Tryz.underlying93
  cases hab : (a == b) with
  | true =>
    rw [hab] at eQ
    clear hab
    go_enter Tryz.func92, Tryz.ntmps92
    go_wp2
    refine wp_loop_rounds 1 ?_
    rw [rounds_succ]
    go_wp2
    go_ret
    exact ⟨rfl, rfl⟩
  | false =>
    rw [hab] at eQ
    clear hab
    go_enter Tryz.func92, Tryz.ntmps92
    go_wp2
    refine wp_loop_rounds 1 ?_
    rw [rounds_succ]
    go_wp2
    go_ret
    exact ⟨rfl, rfl⟩
set_option maxRecDepth 100000 in
set_option maxHeartbeats 1000000 in
theorem errIs_any (a b : Int) (w : World) : Calls Tryz.prog 80 #[.iface 93 (.int .i64 a), .iface 93 (.int .i64 b)] w fun e w' => e = .returned (.bool (a == b)) ∧ w' = w := by
  have h8 := @run_callFunc_extern Tryz.prog 91 _ Extern.ReflectliteType.typeOf Tryz.func91 (by kernel_rfl) (by kernel_rfl) (by kernel_rfl) (by kernel_rfl)
  have h32 := @run_callFunc_extern Tryz.prog 119 _ (Extern.ReflectliteType.method fun t => do Go.Extern.Rtype.noPackHeld "Comparable" t; pure (.bool (← typeInfo t).comparable)) Tryz.func119 (by kernel_rfl) (by kernel_rfl) (by kernel_rfl) (by kernel_rfl)
  have tT := is_typeOf
  have cT := is_comparable
  obtain ⟨r, hr⟩ : ∃ r, r = (a == b) := ⟨_, rfl⟩
  have HE := eis_any a b
  rw [← hr] at HE ⊢
  clear hr
  go_enter Tryz.func80, Tryz.ntmps80
  go_wp2_with (go_at_call 92; refine (HE _).mono ?_; rintro e w' ⟨rfl, rfl⟩)
  go_ret
  exact ⟨rfl, rfl⟩
end Go.Proofs.YtlgghomjlhnijaaGreat

/- Small functions of package ward. -/
namespace Go.Proofs.YtlgghomjlhnijaaGreat
open Go.RowKit Mm

theorem isThread_any (n : Int) (w : World) : Calls Tryz.prog 26 #[.int .i64 n] w fun e w' => e = .returned (.bool (decide (0 ≤ n) && decide (n < 3))) ∧ w' = w := by
  by_cases h : 0 ≤ n
  · go_enter Tryz.func26, Tryz.ntmps26
    go_wp2
    go_ret
    exact ⟨by simp [h], rfl⟩
  · have hn : n < 0 := by omega
    go_enter Tryz.func26, Tryz.ntmps26
    go_wp2
    go_ret
    refine ⟨?_, rfl⟩
    rw [show decide (0 ≤ n) = false from decide_eq_false (by omega)]
    rfl
theorem isCall_any (c : KL) (w : World) : Calls Tryz.prog 53 #[klV c] w fun e w' => e = .returned (.bool (decide (c.nr < 9))) ∧ Below w.heap.size w w' := by
  unfold klV klC
  by_cases h : c.nr < 9
  · have h1 : (c.nr : Int) < 9 := by omega
    have HV := hide (decide_eq_true h)
    clear h
    go_enter Tryz.func53, Tryz.ntmps53
    go_wp2
    go_ret
    rw [HV.out]
    exact ⟨rfl, box_below _ _⟩
  · have h1 : ¬ (c.nr : Int) < 9 := by omega
    have HV := hide (decide_eq_false h)
    clear h
    go_enter Tryz.func53, Tryz.ntmps53
    go_wp2
    go_ret
    rw [HV.out]
    exact ⟨rfl, box_below _ _⟩
/-- The number of the denial that an error comes to. -/
def errnoN (f : Nat) : Nat := if f = 5 then 14 else if f = 6 then 36 else if f = 9 then 12 else 22
set_option maxRecDepth 20000 in
theorem errnoOf_any (f : Nat) (w : World) : Calls Tryz.prog 68 #[.iface 93 (.int .i64 (f : Int))] w fun e w' => e = .returned (.int .i64 (errnoN f : Nat)) ∧ w' = w := by
  have H5 := fun w => errIs_any (f : Int) 5 w
  have H6 := fun w => errIs_any (f : Int) 6 w
  have H9 := fun w => errIs_any (f : Int) 9 w
  obtain ⟨z, hz⟩ : ∃ z : Int, z = f := ⟨_, rfl⟩
  rw [← hz] at H5 H6 H9 ⊢
  by_cases h5 : f = 5
  · have b5 : (z == 5) = true := by rw [hz]; simp; omega
    have HV := hide (show errnoN f = 14 from if_pos h5)
    rw [b5] at H5
    clear hz h5 b5 H6 H9
    go_enter Tryz.func68, Tryz.ntmps68
    go_wp2_with fail
    refine (H5 _).mono ?_
    rintro e w' ⟨rfl, rfl⟩
    go_wp2
    go_ret
    rw [HV.out]
    exact ⟨rfl, rfl⟩
  have b5 : (z == 5) = false := by rw [hz]; simp; omega
  rw [b5] at H5
  clear b5
  by_cases h6 : f = 6
  · have b6 : (z == 6) = true := by rw [hz]; simp; omega
    have HV := hide (show errnoN f = 36 by unfold errnoN; rw [if_neg h5, if_pos h6])
    rw [b6] at H6
    clear hz h5 h6 b6 H9
    go_enter Tryz.func68, Tryz.ntmps68
    go_wp2_with fail
    refine (H5 _).mono ?_
    rintro e w' ⟨rfl, rfl⟩
    go_wp2_with fail
    refine (H6 _).mono ?_
    rintro e w' ⟨rfl, rfl⟩
    go_wp2
    go_ret
    rw [HV.out]
    exact ⟨rfl, rfl⟩
  have b6 : (z == 6) = false := by rw [hz]; simp; omega
  rw [b6] at H6
  clear b6
  by_cases h9 : f = 9
  · have b9 : (z == 9) = true := by rw [hz]; simp; omega
    have HV := hide (show errnoN f = 12 by unfold errnoN; rw [if_neg h5, if_neg h6, if_pos h9])
    rw [b9] at H9
    clear hz h5 h6 h9 b9
    go_enter Tryz.func68, Tryz.ntmps68
    go_wp2_with fail
    refine (H5 _).mono ?_
    rintro e w' ⟨rfl, rfl⟩
    go_wp2_with fail
    refine (H6 _).mono ?_
    rintro e w' ⟨rfl, rfl⟩
    go_wp2_with fail
    refine (H9 _).mono ?_
    rintro e w' ⟨rfl, rfl⟩
    go_wp2
    go_ret
    rw [HV.out]
    exact ⟨rfl, rfl⟩
  have b9 : (z == 9) = false := by rw [hz]; simp; omega
  have HV := hide (show errnoN f = 22 by unfold errnoN; rw [if_neg h5, if_neg h6, if_neg h9])
  rw [b9] at H9
  clear hz h5 h6 h9 b9
  go_enter Tryz.func68, Tryz.ntmps68
  go_wp2_with fail
  refine (H5 _).mono ?_
  rintro e w' ⟨rfl, rfl⟩
  go_wp2_with fail
  refine (H6 _).mono ?_
  rintro e w' ⟨rfl, rfl⟩
  go_wp2_with fail
  refine (H9 _).mono ?_
  rintro e w' ⟨rfl, rfl⟩
  go_wp2
  go_ret
  rw [HV.out]
  exact ⟨rfl, rfl⟩
theorem suffix_zero (l : W8) : Lib.hasSuffix l [0] = (l.getLast? == some 0) := by
  unfold Lib.hasSuffix
  cases h : l.getLast? with
  | none =>
    rw [List.getLast?_eq_none_iff] at h
    subst h
    rfl
  | some x =>
    obtain ⟨r, rfl⟩ := List.getLast?_eq_some_iff.1 h
    by_cases hx : x = 0
    · subst hx
      simp
    · have : ([0] : W8).isSuffixOf (r ++ [x]) = false := by
        rw [Bool.eq_false_iff]
        intro hc
        rw [List.isSuffixOf_iff_suffix] at hc
        obtain ⟨t, ht⟩ := hc
        have := congrArg List.getLast? ht
        simp at this
        exact hx this.symm
      rw [this]
      simp [hx]
theorem isWhole_any (k : Nat) (l : W8) (hl : l.length ≤ 9000) (w : World) : Calls Tryz.prog 50 #[.int .i64 k, .string (bs l)] w fun e w' => e = .returned (.bool (wholeB k l)) ∧ w' = w := by
  have HH := Tryz.strings_HasSuffix (bs l) ⟨#[0]⟩ w (by rw [bs_size]; omega)
  rw [bs_data, show (⟨#[0]⟩ : ByteArray).data.toList = [0] from rfl, suffix_zero] at HH
  have hsz := bs_size l
  obtain ⟨q, hq⟩ : ∃ q, q = bs l := ⟨_, rfl⟩
  rw [← hq] at HH hsz ⊢
  clear hq
  unfold wholeB
  by_cases hk : k = 3
  · subst hk
    rw [if_pos rfl]
    by_cases h16 : l.length = 16
    · have h1 : (q.size : Int) = 16 := by omega
      have HV := hide (show (l.length == 16) = true by rw [h16]; rfl)
      clear HH hsz h16 hl
      go_enter Tryz.func50, Tryz.ntmps50
      go_wp2
      go_ret
      rw [HV.out]
      exact ⟨rfl, rfl⟩
    · have h1 : ¬ (q.size : Int) = 16 := by omega
      have HV := hide (show (l.length == 16) = false by simpa using h16)
      clear HH hsz h16 hl
      go_enter Tryz.func50, Tryz.ntmps50
      go_wp2
      go_ret
      rw [HV.out]
      exact ⟨by show Ending.returned (.bool ((q.size : Int) == 16)) = _; rw [beq_eq_false_iff_ne.2 (by omega)], rfl⟩
  · rw [if_neg hk]
    have h3 : ¬ (k : Int) = 3 := by omega
    cases hs : (l.getLast? == some 0) with
    | true =>
      rw [hs] at HH
      go_enter Tryz.func50, Tryz.ntmps50
      go_wp2_with (go_at_call 69; refine HH.mono ?_; rintro e w' ⟨rfl, rfl⟩)
      go_ret
      exact ⟨by simp, rfl⟩
    | false =>
      rw [hs] at HH
      by_cases h40 : 40 < l.length
      · have h1 : (40 : Int) < q.size := by omega
        have HV := hide (decide_eq_true h40)
        clear hsz hl h40 hs
        go_enter Tryz.func50, Tryz.ntmps50
        go_wp2_with (go_at_call 69; refine HH.mono ?_; rintro e w' ⟨rfl, rfl⟩)
        go_ret
        rw [HV.out]
        exact ⟨rfl, rfl⟩
      · have h1 : ¬ (40 : Int) < q.size := by omega
        have HV := hide (decide_eq_false h40)
        clear hsz hl h40 hs
        go_enter Tryz.func50, Tryz.ntmps50
        go_wp2_with (go_at_call 69; refine HH.mono ?_; rintro e w' ⟨rfl, rfl⟩)
        go_ret
        rw [HV.out]
        exact ⟨by show Ending.returned (.bool (decide ((40 : Int) < q.size))) = _; rw [decide_eq_false (by omega)]; rfl, rfl⟩
/-- A value's cells. -/
def vlC (v : VL) : Array Value := #[.string v.path, .int .u32 v.ip, .int .i64 v.port]
theorem size_vl : (Tryz.prog.info? 50).map (·.size) = some 3 := by kernel_rfl
theorem vlC_one (v : VL) : (vlC v).all (·.oneCell') = true := by simp [vlC, Value.oneCell']
theorem results_vl {fn : Func} {p u : Tmp} (h : fn.results = #[.cell p 50, .tmp u]) (tmps : Array Value) (w : World) (g : Nat) (cs : Array Value) (v : Value) (hs : cs.size = 3)
    (hp : tmps.getD p undef = .pointer (some ⟨g, 0, none⟩)) (hv : tmps.getD u undef = v) (hg : w.heap[g]? = some (.cells cs 50 (0, 0))) :
    (results fn tmps).run Tryz.prog w = .ok (.tuple #[.agg cs, v]) w := by
  rw [results_cell_tmp h, hp, hv]
  have hl := run_loadVar_row (P := Tryz.prog) w g 50 50 cs (0, 0) _ hg Tryz.underlying50 rfl (by rw [hs]; exact size_vl)
  simp [asAddr, hl]
/-- What whole bytes tell: the value, and the error's number. -/
def valR (k : Nat) (l : W8) : VL × Nat := match valOf k l with
  | some v => (v, 0)
  | none => (zeroVL, if k = 3 then 3 else 6)
theorem trim_zero {l : W8} (h : (l.getLast? == some 0) = true) : Lib.trimSuffix l [0] = l.dropLast := by
  have h1 := suffix_zero l
  rw [h] at h1
  unfold Lib.trimSuffix
  rw [if_pos h1, List.dropLast_eq_take]
  rfl
theorem valueOf_any (k : Nat) (hk : k = 2 ∨ k = 3) (l : W8) (hl : l.length ≤ 9000) (w : World) : Calls Tryz.prog 51 #[.int .i64 k, .string (bs l)] w fun e w' => e = .returned (.tuple #[.agg (vlC (valR k l).1), errV (valR k l).2]) ∧ Below w.heap.size w w' := by
  have hres : (w.alloc (.cells #[.string ⟨#[]⟩, .int .u32 0, .int .i64 0] 50)).heap[w.heap.size]? = some (.cells #[.string ⟨#[]⟩, .int .u32 0, .int .i64 0] 50 (0, 0)) := heap_alloc_new _ _
  obtain ⟨V, hV, hVh, hVb⟩ : ∃ V, V = w.alloc (.cells #[.string ⟨#[]⟩, .int .u32 0, .int .i64 0] 50) ∧ V.heap[w.heap.size]? = some (.cells #[.string ⟨#[]⟩, .int .u32 0, .int .i64 0] 50 (0, 0)) ∧ Below w.heap.size w V := ⟨_, rfl, hres, box_below _ _⟩
  have hVl := (Array.getElem?_eq_some_iff.1 hVh).1
  have HC := Tryz.strings_CutSuffix (bs l) ⟨#[0]⟩ V (by rw [bs_size]; omega)
  rw [bs_data, show (⟨#[0]⟩ : ByteArray).data.toList = [0] from rfl, suffix_zero] at HC
  have HA := aread_any (bs l) V
  clear hres hl
  rcases hk with rfl | rfl
  · cases hs : (l.getLast? == some 0) with
    | true =>
      rw [hs] at HC
      have HR := hide (show valR 2 l = (⟨bs l.dropLast, 0, 0⟩, 0) by
        unfold valR valOf
        rw [if_neg (by omega), if_pos (eq_of_beq hs)])
      rw [trim_zero hs, show (⟨(l.dropLast).toArray⟩ : ByteArray) = bs l.dropLast from rfl] at HC
      obtain ⟨d, hd⟩ : ∃ d, d = bs l.dropLast := ⟨_, rfl⟩
      rw [← hd] at HC HR
      obtain ⟨q, hq⟩ : ∃ q, q = bs l := ⟨_, rfl⟩
      rw [← hq] at HC ⊢
      clear hd hq hs HA
      go_enter Tryz.func51, Tryz.ntmps51
      go_wp2_with fail
      rw [← hV]
      refine HC.mono ?_
      rintro e w' ⟨rfl, hw'⟩
      rw [hw']
      clear hw' hV HC
      go_wp2_with (refine wpList_store_row rfl 50 _ _ rfl w.heap.size (vlC ⟨d, 0, 0⟩) rfl rfl 50 _ hVh size_vl rfl (vlC_one _) ?_)
      refine bodyPost_ret (v := .tuple #[.agg (vlC ⟨d, 0, 0⟩), .nilIface]) (results_vl rfl _ _ w.heap.size (vlC ⟨d, 0, 0⟩) _ rfl rfl rfl (setRow_heap _ _ _ _ _ _ hVh)) rfl ⟨?_, below_setRow hVb (Nat.le_refl _) _⟩
      rw [HR.out]
      rfl
    | false =>
      rw [hs] at HC
      have HR := hide (show valR 2 l = (zeroVL, 6) by
        unfold valR valOf
        rw [if_neg (by omega), if_neg (fun h => by rw [h] at hs; simp at hs)]
        rfl)
      obtain ⟨d, hd⟩ : ∃ d : ByteArray, d = ⟨(Lib.trimSuffix l [0]).toArray⟩ := ⟨_, rfl⟩
      rw [← hd] at HC
      obtain ⟨q, hq⟩ : ∃ q, q = bs l := ⟨_, rfl⟩
      rw [← hq] at HC ⊢
      clear hd hq hs HA
      go_enter Tryz.func51, Tryz.ntmps51
      go_wp2_with fail
      rw [← hV]
      refine HC.mono ?_
      rintro e w' ⟨rfl, hw'⟩
      rw [hw']
      clear hw' hV HC
      go_wp2_with (refine wpList_store_row rfl 50 _ _ rfl w.heap.size (vlC zeroVL) rfl rfl 50 _ hVh size_vl rfl (vlC_one _) ?_)
      refine bodyPost_ret (v := .tuple #[.agg (vlC zeroVL), .iface 93 (.int .i64 6)]) (results_vl rfl _ _ w.heap.size (vlC zeroVL) _ rfl rfl rfl (setRow_heap _ _ _ _ _ _ hVh)) rfl ⟨?_, below_setRow hVb (Nat.le_refl _) _⟩
      rw [HR.out]
      rfl
  · cases hr : readR (bs l) with
    | none =>
      rw [hr] at HA
      have HR := hide (show valR 3 l = (zeroVL, 3) by
        unfold valR valOf
        rw [if_pos rfl, hr]
        rfl)
      unfold readV at HA
      obtain ⟨q, hq⟩ : ∃ q, q = bs l := ⟨_, rfl⟩
      rw [← hq] at HA ⊢
      clear hq hr HC
      go_enter Tryz.func51, Tryz.ntmps51
      go_wp2_with fail
      rw [← hV]
      refine HA.mono ?_
      rintro e X ⟨rfl, hX⟩
      have hXh := (hX.block _ hVl).trans hVh
      have HB := hide (below_next hVb hX)
      clear hV HA hX
      go_wp2_with (refine wpList_store_row rfl 50 _ _ rfl w.heap.size (vlC zeroVL) rfl rfl 50 _ hXh size_vl rfl (vlC_one _) ?_)
      refine bodyPost_ret (v := .tuple #[.agg (vlC zeroVL), .iface 93 (.int .i64 3)]) (results_vl rfl _ _ w.heap.size (vlC zeroVL) _ rfl rfl rfl (setRow_heap _ _ _ _ _ _ hXh)) rfl ⟨?_, below_setRow HB.out (Nat.le_refl _) _⟩
      rw [HR.out]
      rfl
    | some x =>
      obtain ⟨ip, port⟩ := x
      rw [hr] at HA
      have HR := hide (show valR 3 l = (⟨ByteArray.empty, ip, port⟩, 0) by
        unfold valR valOf
        rw [if_pos rfl, hr]
        rfl)
      unfold readV at HA
      obtain ⟨q, hq⟩ : ∃ q, q = bs l := ⟨_, rfl⟩
      rw [← hq] at HA ⊢
      clear hq hr HC
      go_enter Tryz.func51, Tryz.ntmps51
      go_wp2_with fail
      rw [← hV]
      refine HA.mono ?_
      rintro e X ⟨rfl, hX⟩
      have hXh := (hX.block _ hVl).trans hVh
      have HB := hide (below_next hVb hX)
      clear hV HA hX
      go_wp2_with (refine wpList_store_row rfl 50 _ _ rfl w.heap.size (vlC ⟨ByteArray.empty, ip, port⟩) rfl rfl 50 _ hXh size_vl rfl (vlC_one _) ?_)
      refine bodyPost_ret (v := .tuple #[.agg (vlC ⟨ByteArray.empty, ip, port⟩), .nilIface]) (results_vl rfl _ _ w.heap.size (vlC ⟨ByteArray.empty, ip, port⟩) _ rfl rfl rfl (setRow_heap _ _ _ _ _ _ hXh)) rfl ⟨?_, below_setRow HB.out (Nat.le_refl _) _⟩
      rw [HR.out]
      rfl
theorem bytesOf_any (k : Nat) (v : VL) (hv : ValOk k v) (w : World) : Calls Tryz.prog 72 #[.int .i64 k, .agg (vlC v)] w fun e w' => e = .returned (.tuple #[.string (bs (bytesV k v)), .nilIface]) ∧ Below w.heap.size w w' := by
  obtain ⟨path, ip, port⟩ := v
  unfold vlC
  obtain ⟨V, hV, hVb, hVs, hVc⟩ := one_box w #[.string path, .int .u32 ip, .int .i64 port] 50
  have c0 := hVc 0
  have c1 := hVc 1
  have c2 := hVc 2
  simp only [List.getElem?_toArray, List.getElem?_cons_zero, List.getElem?_cons_succ] at c0 c1 c2
  clear hVc
  rcases hv with ⟨rfl, h1, h2, h3, h4⟩ | ⟨rfl, h1, h2, q, h3, h4⟩
  · simp only at h1 h2 h3 h4
    have HR := hide (show bs (bytesV 2 ⟨path, ip, port⟩) = path ++ ⟨#[0]⟩ by
      unfold bytesV
      rw [if_neg (by omega), ← bs_append, bs_of]
      rfl)
    have z : ¬ 9223372036854775807 < path.size + 1 := by omega
    clear h2 h3 h4
    go_enter Tryz.func72, Tryz.ntmps72
    go_wp2
    go_ret2
    exact ⟨by rw [HR.out]; rfl, box_below _ _⟩
  · simp only at h1 h2 h3
    subst h3
    have HB := fun X => bytes_any ip h2 q h4 X
    rw [show (⟨(bytesL ip q).toArray⟩ : ByteArray) = bs (bytesL ip q) from rfl] at HB
    have HR := hide (show bytesV 3 ⟨path, ip, (q : Int)⟩ = bytesL ip q from rfl)
    obtain ⟨r, hr⟩ : ∃ r, r = bs (bytesL ip q) := ⟨_, rfl⟩
    rw [← hr] at HB
    have HRR := hide hr
    clear hr h1 h2 h4
    go_enter Tryz.func72, Tryz.ntmps72
    go_wp2_with fail
    rw [← hV]
    clear hV
    refine (HB _).mono ?_
    rintro e X ⟨rfl, hX⟩
    go_wp2
    go_ret2
    exact ⟨by rw [HR.out, ← HRR.out]; rfl, below_next hVb hX⟩
end Go.Proofs.YtlgghomjlhnijaaGreat
