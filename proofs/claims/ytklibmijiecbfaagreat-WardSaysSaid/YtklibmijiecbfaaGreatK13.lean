/- The steps of a ward keep what always holds: Seal, Exec, what threads do to memory; all steps. -/
import Derived.Test.YtklibmijiecbfaaGreatK12
import Derived.Test.YtklibmijiecbfaaGreatK3
import Derived.Test.YtklibmijiecbfaaGreatK2
namespace Go.Proofs.YtklibmijiecbfaaGreat
open Mm

theorem freeQ_some {m : MS} {q : Nat} (h : freeQ m = some q) : 8 ≤ q ∧ q < 12 ∧ m.rd q = false ∧ ∀ n, 8 ≤ n → n < q → m.rd n = true := by
 unfold freeQ at h
 simp only [List.find?_cons, List.find?_nil] at h
 cases h8 : m.rd 8 with
 | false => rw [h8] at h; simp at h; subst h; exact ⟨by omega, by omega, h8, fun n _ _ => by omega⟩
 | true =>
  rw [h8] at h
  cases h9 : m.rd 9 with
  | false =>
   rw [h9] at h; simp at h; subst h
   exact ⟨by omega, by omega, h9, fun n a b => by rw [show n = 8 by omega]; exact h8⟩
  | true =>
   rw [h9] at h
   cases h10 : m.rd 10 with
   | false =>
    rw [h10] at h; simp at h; subst h
    refine ⟨by omega, by omega, h10, fun n a b => ?_⟩
    rcases show n = 8 ∨ n = 9 by omega with rfl | rfl
    ·
     exact h8
    ·
     exact h9
   | true =>
    rw [h10] at h
    cases h11 : m.rd 11 with
    | false =>
     rw [h11] at h; simp at h; subst h
     refine ⟨by omega, by omega, h11, fun n a b => ?_⟩
     rcases show n = 8 ∨ n = 9 ∨ n = 10 by omega with rfl | rfl | rfl
     ·
      exact h8
     ·
      exact h9
     ·
      exact h10
    | true => rw [h11] at h; simp at h
theorem freeQ_none {m : MS} (h : freeQ m = none) : ∀ n, 8 ≤ n → n < 12 → m.rd n = true := by
 unfold freeQ at h
 have h' := List.find?_eq_none.1 h
 intro n h1 h2
 have := h' n (by simp; omega)
 simpa using this
theorem bytesV_len {k : Nat} {v : VL} (h : ValOk k v) : (bytesV k v).length ≤ 64 := by
 unfold bytesV
 rcases h with ⟨rfl, h1, _⟩ | ⟨rfl, _⟩
 ·
  rw [if_neg (by omega), List.length_append, List.length_singleton, ← Lib.size_eq]; omega
 ·
  rw [if_pos rfl]; simp [bytesL]
theorem sealByte (m : MS) (q : Nat) (l : W8) (x : Nat) : (sealM m q l).byte x = if q * 64 ≤ x ∧ x < q * 64 + l.length then (l.getD (x - q * 64) 0).toNat else m.byte x := rfl
theorem sealRd (m : MS) (q n : Nat) (l : W8) : (sealM m q l).rd n = if n = q then true else m.rd n := rfl

structure Mid (p : POL) (n : Nat) (d : List Nat) (s : WS) : Prop where
 oth : ∀ k, k < 3 → k ≠ n → TOk p (s.T k)
 mem : MOk s
 log : ∀ e ∈ s.log, EnOk p e
 ph : (s.T n).phase = 4
 kl : KlOk (s.T n).call
 ar : ∀ i, (s.T n).args i < 18446744073709551616
 nr : (s.T n).call.nr ≤ 8
 dec : (decideR p (s.T n).call (vsOf (s.T n).vals)).kind = 1
 vok : ValsOk (s.T n) (ptsOf (s.T n).call.nr)
 sld : ∀ i, (s.T n).sld i = true ↔ i ∈ d
theorem Mid.next {p : POL} {n : Nat} {d : List Nat} {s : WS} (h : Mid p n d s) (hn : n < 3) {i q : Nat} (hi : i ∈ ptsOf (s.T n).call.nr) (hd : i ∉ d) (hq : freeQ s.mem = some q) :
  Mid p n (d ++ [i]) ⟨updF s.T n { s.T n with args := updF (s.T n).args i (q * 64), sld := updF (s.T n).sld i true }, sealM s.mem q (bytesV (kindAt (s.T n).call.nr i) ((s.T n).vals i)), s.log⟩ := by
 obtain ⟨q8, q12, qr, _⟩ := freeQ_some hq
 have hv := (h.vok i).1 hi
 have hlen := bytesV_len hv
 obtain ⟨l, hl⟩ : ∃ l, l = bytesV (kindAt (s.T n).call.nr i) ((s.T n).vals i) := ⟨_, rfl⟩
 rw [← hl] at hlen ⊢
 obtain ⟨t, ht⟩ : ∃ t : TH, t = { s.T n with args := updF (s.T n).args i (q * 64), sld := updF (s.T n).sld i true } := ⟨_, rfl⟩
 have tc : t.call = (s.T n).call := by rw [ht]
 have tv : t.vals = (s.T n).vals := by rw [ht]
 have ta : t.args = updF (s.T n).args i (q * 64) := by rw [ht]
 have ts : t.sld = updF (s.T n).sld i true := by rw [ht]
 have tp : t.phase = (s.T n).phase := by rw [ht]
 rw [← ht]
 clear ht
 have tn : updF s.T n t n = t := updF_same _ _ _
 have te : ∀ k, k ≠ n → updF s.T n t k = s.T k := fun k hk => updF_other _ _ hk
 have hdi : (s.T n).sld i = false := by
  cases hsi : (s.T n).sld i with
  | false => rfl
  | true => exact absurd ((h.sld i).1 hsi) hd
 -- who has a page now
 have who : ∀ k j, (updF s.T n t k).sld j = true → (k = n ∧ j = i ∧ (updF s.T n t k).args j = q * 64) ∨ ((s.T k).sld j = true ∧ (updF s.T n t k).args j = (s.T k).args j ∧ ¬ (k = n ∧ j = i)) := fun k j hj => by
  by_cases hk : k = n
  ·
   subst hk
   rw [tn] at hj ⊢
   by_cases hji : j = i
   ·
    subst hji
    exact .inl ⟨rfl, rfl, by rw [ta, updF_same]⟩
   ·
    rw [ts, updF_other _ _ hji] at hj
    exact .inr ⟨hj, by rw [ta, updF_other _ _ hji], fun h => hji h.2⟩
  ·
   rw [te k hk] at hj ⊢
   exact .inr ⟨hj, rfl, fun h => hk h.1⟩
 have hpg : ∀ k j, k < 3 → (s.T k).sld j = true → (s.T k).args j ≠ q * 64 := fun k j hk hj he => by
  obtain ⟨_, q', a1, a2, a3, a4, _⟩ := h.mem.held k j hk hj
  have : q' = q := by omega
  rw [this, qr] at a4
  cases a4
 refine ⟨fun k hk hkn => ?_, ⟨⟨fun x => ?_, fun x h8 h12 => h.mem.fine.wt x h8 h12⟩, fun q' h8 h12 hr => ?_, fun k j hk hj => ?_, fun k j k' j' hk hk' hj hj' he => ?_⟩, h.log, ?_, ?_, fun j => ?_, ?_, ?_, ?_, fun j => ?_⟩
 ·
  show TOk p (updF s.T n t k)
  rw [te k hkn]
  exact h.oth k hk hkn
 ·
  show (sealM s.mem q l).byte x < 256
  rw [sealByte]
  split
  ·
   exact UInt8.toNat_lt _
  ·
   exact h.mem.fine.bytes x
 ·
  show ∃ k j, k < 3 ∧ j < 4 ∧ (updF s.T n t k).sld j = true ∧ (updF s.T n t k).args j = q' * 64
  have hr' : (sealM s.mem q l).rd q' = true := hr
  rw [sealRd] at hr'
  by_cases hqq : q' = q
  ·
   exact ⟨n, i, hn, (pts_of hi).2.1, by rw [tn, ts, updF_same], by rw [tn, ta, updF_same, hqq]⟩
  ·
   rw [if_neg hqq] at hr'
   obtain ⟨k, j, hk, hj, a1, a2⟩ := h.mem.own q' h8 h12 hr'
   by_cases hkn : k = n
   ·
    subst hkn
    have hji : j ≠ i := fun e => by rw [e, hdi] at a1; cases a1
    exact ⟨k, j, hk, hj, by rw [tn, ts, updF_other _ _ hji]; exact a1, by rw [tn, ta, updF_other _ _ hji]; exact a2⟩
   ·
    exact ⟨k, j, hk, hj, by rw [te k hkn]; exact a1, by rw [te k hkn]; exact a2⟩
 ·
  show j < 4 ∧ ∃ q', 8 ≤ q' ∧ q' < 12 ∧ (updF s.T n t k).args j = q' * 64 ∧ (sealM s.mem q l).rd q' = true ∧ Stands (sealM s.mem q l) q' (bytesV (kindAt (updF s.T n t k).call.nr j) ((updF s.T n t k).vals j))
  rcases who k j hj with ⟨rfl, rfl, a3⟩ | ⟨a1, a2, a3⟩
  ·
   refine ⟨(pts_of hi).2.1, q, q8, q12, a3, by rw [sealRd, if_pos rfl], ?_⟩
   rw [tn, tc, tv, ← hl]
   refine ⟨hlen, fun x hx => ?_⟩
   rw [sealByte, if_pos ⟨by omega, by omega⟩, show q * 64 + x - q * 64 = x by omega]
  ·
   obtain ⟨h4, q', b1, b2, b3, b4, b5⟩ := h.mem.held k j hk a1
   have hqq : q' ≠ q := fun e => hpg k j hk a1 (by rw [b3, e])
   refine ⟨h4, q', b1, b2, by rw [a2]; exact b3, by rw [sealRd, if_neg hqq]; exact b4, ?_⟩
   have hbv : bytesV (kindAt (updF s.T n t k).call.nr j) ((updF s.T n t k).vals j) = bytesV (kindAt (s.T k).call.nr j) ((s.T k).vals j) := by
    by_cases hkn : k = n
    ·
     subst hkn; rw [tn, tc, tv]
    ·
     rw [te k hkn]
   rw [hbv]
   refine ⟨b5.1, fun x hx => ?_⟩
   have hb1 := b5.1
   rw [sealByte, if_neg (by omega)]
   exact b5.2 x hx
 ·
  show k = k' ∧ j = j'
  have he' : (updF s.T n t k).args j = (updF s.T n t k').args j' := he
  rcases who k j hj with ⟨a1, a2, a3⟩ | ⟨a1, a2, a3⟩
  ·
   rcases who k' j' hj' with ⟨b1, b2, b3⟩ | ⟨b1, b2, b3⟩
   ·
    exact ⟨a1.trans b1.symm, a2.trans b2.symm⟩
   ·
    exact absurd (by rw [← b2, ← he', a3]) (hpg k' j' hk' b1)
  ·
   rcases who k' j' hj' with ⟨b1, b2, b3⟩ | ⟨b1, b2, b3⟩
   ·
    exact absurd (by rw [← a2, he', b3]) (hpg k j hk a1)
   ·
    rw [a2, b2] at he'
    exact h.mem.uniq k j k' j' hk hk' a1 b1 he'
 ·
  show (updF s.T n t n).phase = 4
  rw [tn, tp]; exact h.ph
 ·
  show KlOk (updF s.T n t n).call
  rw [tn, tc]; exact h.kl
 ·
  show (updF s.T n t n).args j < _
  rw [tn, ta]
  unfold updF
  split
  ·
   omega
  ·
   exact h.ar j
 ·
  show (updF s.T n t n).call.nr ≤ 8
  rw [tn, tc]; exact h.nr
 ·
  show (decideR p (updF s.T n t n).call (vsOf (updF s.T n t n).vals)).kind = 1
  rw [tn, tc, tv]; exact h.dec
 ·
  show ValsOk (updF s.T n t n) (ptsOf (updF s.T n t n).call.nr)
  rw [tn]
  intro j
  rw [tc, tv]
  exact h.vok j
 ·
  show (updF s.T n t n).sld j = true ↔ j ∈ d ++ [i]
  rw [tn, ts, List.mem_append, List.mem_singleton]
  by_cases hji : j = i
  ·
   subst hji
   rw [updF_same]
   simp
  ·
   rw [updF_other _ _ hji, h.sld]
   simp [hji]
theorem sealL_inv {p : POL} {n : Nat} (hn : n < 3) : ∀ (r d : List Nat) (s : WS), Mid p n d s → d ++ r = ptsOf (s.T n).call.nr → Inv p (sealL n r s)
 | [], d, s, h, hd => by
  rw [List.append_nil] at hd
  unfold sealL
  refine ⟨fun k hk => ?_, h.mem.put rfl (fun i _ => ⟨rfl, rfl, rfl⟩), h.log⟩
  by_cases hkn : k = n
  ·
   subst hkn
   rw [T_put]
   exact ⟨by show 5 ≤ 6; omega, h.kl, h.ar, fun h1 => (by rcases h1 with h1 | h1 <;> cases h1), fun h1 => (by cases h1), fun h1 => absurd rfl h1, fun _ h1 => by exact absurd h1 (by show ¬ 5 ≤ 4; omega), fun h1 => (by cases h1), fun _ h1 => by exact absurd h1 (by show ¬ 5 ≤ 4; omega), fun _ h1 => by exact absurd h1 (by show ¬ 5 ≤ 4; omega), fun h1 => (by cases h1), fun _ => .inr ⟨h.nr, h.dec, fun i => by rw [← hd]; exact h.sld i, h.vok⟩⟩
  ·
   rw [T_else _ _ hkn]
   exact h.oth k hk hkn
 | i :: r, d, s, h, hd => by
  unfold sealL
  split
  ·
   exact end_inv hn h.mem h.oth h.log 2 12 zeroVS (no_entry p hn (.inl rfl) h.kl (by omega))
  ·
   rename_i q hq
   have hi : i ∈ ptsOf (s.T n).call.nr := by rw [← hd]; simp
   have hnd := pts_nodup (s.T n).call.nr
   rw [← hd, List.nodup_append] at hnd
   have hdi : i ∉ d := fun hm => hnd.2.2 _ hm _ (by simp) rfl
   refine sealL_inv hn r (d ++ [i]) _ (h.next hn hi hdi hq) ?_
   rw [List.append_assoc]
   show d ++ i :: r = ptsOf (updF s.T n _ n).call.nr
   rw [updF_same]
   exact hd
theorem mid_start {p : POL} {s : WS} (h : Inv p s) {n : Nat} (hn : n < 3) (hph : (s.T n).phase = 4) : Mid p n [] s := by
 have ht := h.thr n hn
 have hv := ht.vok (by omega) (by omega)
 rw [(ht.full (by omega) (by omega)).1, List.take_length] at hv
 exact ⟨fun k hk _ => h.thr k hk, h.mem, h.log, hph, ht.kl, ht.ar, ht.trc (by omega) (by omega), ht.dec hph, hv, fun i => by rw [(ht.plain (by omega)).1 i]; simp⟩
theorem seal_inv {p : POL} {s : WS} (h : Inv p s) {n : Nat} (hn : n < 3) (hph : (s.T n).phase = 4) : Inv p (sealS n s) :=
 sealL_inv hn _ [] s (mid_start h hn hph) rfl

theorem mtext_len {f : Nat → Option Nat} {a : Nat} : ∀ (k i : Nat) (l : List Nat) (e : Nat) (l' : List Nat), Mm.textP f a k i l = (e, l') → l.length + k ≤ 41 → l'.length ≤ 40
 | 0, i, l, e, l', h, _ => by
  unfold Mm.textP at h
  cases h
  simp
 | k + 1, i, l, e, l', h, hk => by
  unfold Mm.textP at h
  split at h
  ·
   cases h; simp
  ·
   split at h
   ·
    cases h; omega
   ·
    exact mtext_len k (i + 1) _ e l' h (by rw [List.length_append, List.length_singleton]; omega)
theorem follow_ok {m : MS} {k a : Nat} {x : VL} (h : followF m k a = .inl x) : VlOk x := by
 unfold followF at h
 split at h
 ·
  split at h
  ·
   rename_i l hl
   obtain rfl := Sum.inl.inj h
   have := mtext_len 41 0 [] 0 l hl (by simp)
   refine ⟨?_, by simp, i64_nat (k := 0) (by omega)⟩
   show (bytesOf l).toArray.size ≤ 1000
   simp [bytesOf]
   omega
  ·
   cases h
 ·
  split at h
  ·
   cases h
  ·
   split at h
   ·
    rename_i x' hx
    obtain rfl := Sum.inl.inj h
    obtain ⟨h1, h2, _⟩ := readR_some hx
    exact ⟨by simp, h1, i64_nat (by omega)⟩
   ·
    cases h
theorem peek_page {m : MS} {q j : Nat} (hq : q < 12) (hj : j < 64) (hr : m.rd q = true) : peek m (addrI (q * 64) j) = some (m.byte (q * 64 + j)) := by
 unfold peek addrI
 rw [Nat.mod_eq_of_lt (by omega), if_pos ⟨by omega, by rw [show (q * 64 + j) / 64 = q by omega]; exact hr⟩]
theorem text_page {m : MS} {q : Nat} (hq : q < 12) (hr : m.rd q = true) (l : W8) (hl : l.length ≤ 40) (h0 : (0 : UInt8) ∉ l) (hs : Stands m q (l ++ [0])) : ∀ (k i : Nat), i + k = 41 → i ≤ l.length → Mm.textP (peek m) (q * 64) k i ((l.take i).map UInt8.toNat) = (0, l.map UInt8.toNat)
 | 0, i, hk, hi => by omega
 | k + 1, i, hk, hi => by
  have hb := hs.2 i (by rw [List.length_append, List.length_singleton]; omega)
  unfold Mm.textP
  rw [peek_page hq (by omega) hr, hb]
  simp only
  by_cases hlt : i < l.length
  ·
   have hg : (l ++ [0]).getD i 0 = l[i] := by
    rw [List.getD_eq_getElem?_getD, List.getElem?_append_left hlt, List.getElem?_eq_getElem hlt]
    rfl
   rw [hg]
   have hne : l[i].toNat ≠ 0 := fun e => h0 (by
    have : l[i] = 0 := UInt8.toNat_inj.1 (by rw [e]; rfl)
    rw [← this]
    exact List.getElem_mem hlt)
   rw [if_neg hne]
   have ht : (l.take i).map UInt8.toNat ++ [l[i].toNat] = (l.take (i + 1)).map UInt8.toNat := by
    rw [List.take_add_one, List.getElem?_eq_getElem hlt, List.map_append]
    rfl
   rw [ht]
   exact text_page hq hr l hl h0 hs k (i + 1) (by omega) (by omega)
  ·
   have hie : i = l.length := by omega
   have hg : (l ++ [0]).getD i 0 = 0 := by
    rw [List.getD_eq_getElem?_getD, hie]
    simp
   rw [hg, if_pos (show UInt8.toNat 0 = 0 from rfl), hie, List.take_length]
theorem get_page {m : MS} {q : Nat} (hq : q < 12) (hr : m.rd q = true) {l : W8} (hs : Stands m q l) : getR m (q * 64) l.length = some (l.map UInt8.toNat) := get_sealed hq hs.1 hr hs.2
theorem follow_sealed {m : MS} {k q : Nat} {v : VL} (hv : ValOk k v) (hq : q < 12) (hr : m.rd q = true) (hs : Stands m q (bytesV k v)) : followF m k (q * 64) = .inl v := by
 obtain ⟨path, ip, port⟩ := v
 unfold followF
 unfold bytesV at hs
 rcases hv with ⟨rfl, h1, h2, h3, h4⟩ | ⟨rfl, h1, h2, r, h3, h4⟩
 ·
  rw [if_neg (by omega)] at hs
  simp only at h1 h2 h3 h4 hs
  subst h3 h4
  have := text_page hq hr path.data.toList (by rw [← Lib.size_eq]; exact h1) h2 hs 41 0 (by omega) (by omega)
  rw [List.take_zero, List.map_nil] at this
  rw [if_pos rfl, this]
  simp only
  rw [bytesOf_toNat]
 ·
  rw [if_pos rfl] at hs
  simp only at h1 h2 h3 hs
  subst h1 h3
  rw [show ((r : Nat) : Int).toNat = r from rfl] at hs
  have hg := get_page hq hr hs
  rw [show (bytesL ip r).length = 16 from rfl] at hg
  rw [if_neg (by omega), hg]
  simp only
  rw [bytesOf_toNat, readR_bytes ip r h2 h4]
theorem follow_err {m : MS} {k a e : Nat} (h : followF m k a = .inr e) : e ≤ 255 := by
 unfold followF at h
 split at h
 ·
  split at h
  ·
   cases h
  ·
   obtain rfl := Sum.inr.inj h
   split <;> omega
 ·
  split at h
  ·
   obtain rfl := Sum.inr.inj h; omega
  ·
   split at h
   ·
    cases h
   ·
    obtain rfl := Sum.inr.inj h; omega
theorem exec_flat {p : POL} (hp : PolOk p) {s : WS} (h : Inv p s) {n : Nat} (hn : n < 3) (hf : Flat p (s.T n)) : ∀ (r : List Nat) (v : Nat → VL), (∀ i, VlOk (v i)) → Inv p (execL n s r v)
 | [], v, hv => by
  unfold execL
  refine end_inv hn h.mem (fun k hk _ => h.thr k hk) h.log 1 0 _ ⟨by show 1 ≤ 1 ∧ 1 ≤ 3; omega, hn, (h.thr n hn).kl, vsOf_ok fun i _ => hv i, by show (0 : Int) ≤ 0 ∧ (0 : Int) ≤ 255; omega, fun _ => ?_⟩
  rcases top_laws hp (s.T n).call (vsOf v) with ⟨h1, _⟩ | ⟨_, _, h3⟩
  ·
   rw [hf.1] at h1; cases h1
  ·
   show (decideR p (s.T n).call (vsOf v)).kind = 1
   rw [h3]; exact hf.1
 | i :: r, v, hv => by
  unfold execL
  split
  ·
   rename_i x hx
   refine exec_flat hp h hn hf r _ fun j => ?_
   unfold updF
   split
   ·
    exact follow_ok hx
   ·
    exact hv j
  ·
   rename_i e he
   exact h.ended hn (.inl rfl) (by have := follow_err he; omega)
theorem exec_sealed {p : POL} {s : WS} (h : Inv p s) {n : Nat} (hn : n < 3) (hf : Sealed p (s.T n)) : ∀ (r d : List Nat) (v : Nat → VL), d ++ r = ptsOf (s.T n).call.nr → (∀ i, v i = if i ∈ d then (s.T n).vals i else zeroVL) → execL n s r v = endS n 1 0 (vsOf (s.T n).vals) s
 | [], d, v, hd, hv => by
  unfold execL
  rw [List.append_nil] at hd
  have : v = (s.T n).vals := by
   funext i
   rw [hv i]
   split
   ·
    rfl
   ·
    rename_i hi
    rw [hd] at hi
    exact ((hf.vok i).2 hi).symm
  rw [this]
 | i :: r, d, v, hd, hv => by
  have hi : i ∈ ptsOf (s.T n).call.nr := by rw [← hd]; simp
  obtain ⟨_, q, q8, q12, qa, qr, qs⟩ := h.mem.held n i hn ((hf.sld i).2 hi)
  unfold execL
  rw [qa, follow_sealed ((hf.vok i).1 hi) q12 qr qs]
  refine exec_sealed h hn hf r (d ++ [i]) _ (by rw [List.append_assoc]; exact hd) fun j => ?_
  unfold updF
  by_cases hj : j = i
  ·
   rw [if_pos hj, if_pos (List.mem_append.2 (.inr (List.mem_singleton.2 hj))), hj]
  ·
   rw [if_neg hj, hv j]
   by_cases hjd : j ∈ d
   ·
    rw [if_pos hjd, if_pos (List.mem_append.2 (.inl hjd))]
   ·
    rw [if_neg hjd, if_neg (fun h => (List.mem_append.1 h).elim hjd fun h => hj (List.mem_singleton.1 h))]
theorem exec_inv {p : POL} (hp : PolOk p) {s : WS} (h : Inv p s) {n : Nat} (hn : n < 3) (hph : (s.T n).phase = 5) : Inv p (execS n s) := by
 have ht := h.thr n hn
 unfold execS
 split
 ·
  exact h.ended hn (.inl rfl) (by omega)
 ·
  rcases ht.ex hph with hf | hf
  ·
   exact exec_flat hp h hn hf _ _ fun _ => zeroVL_ok
  ·
   rw [exec_sealed h hn hf (ptsOf (s.T n).call.nr) [] (fun _ => zeroVL) rfl fun i => by simp]
   exact end_inv hn h.mem (fun k hk _ => h.thr k hk) h.log 1 0 _ ⟨by show 1 ≤ 1 ∧ 1 ≤ 3; omega, hn, ht.kl, hf.vok.vs, by show (0 : Int) ≤ 0 ∧ (0 : Int) ≤ 255; omega, fun _ => hf.dec⟩
theorem step_inv {p : POL} (hp : polF p = 0) (hq : PolOk p) {s : WS} (h : Inv p s) {n : Nat} (hn : n < 3) : Inv p (stepS p n s) := by
 unfold stepS
 split
 ·
  rename_i hph; exact filter_inv hp h hn hph
 ·
  rename_i hph; exact snap_inv h hn hph
 ·
  rename_i hph; exact judge_inv hp h hn hph
 ·
  rename_i hph; exact seal_inv h hn hph
 ·
  rename_i hph; exact exec_inv hq h hn hph
 ·
  exact h
theorem mem_inv {p : POL} {s : WS} (h : Inv p s) {m : MS} (hh : high s.mem m) (hb : bytesOk s.mem → bytesOk m) : Inv p { s with mem := m } :=
 ⟨h.thr, ⟨high_fine h.mem.fine hh hb, fun q h8 h12 hr => h.mem.own q h8 h12 ((hh.1 q h8).1 ▸ hr), fun n i hn hi => by
  obtain ⟨h4, q, a1, a2, a3, a4, a5, a6⟩ := h.mem.held n i hn hi
  exact ⟨h4, q, a1, a2, a3, by rw [show ({ s with mem := m } : WS).mem = m from rfl, (hh.1 q a1).1]; exact a4, a5, fun j hj => by rw [show ({ s with mem := m } : WS).mem = m from rfl, hh.2 _ (by omega)]; exact a6 j hj⟩, h.mem.uniq⟩, h.log⟩
end Go.Proofs.YtklibmijiecbfaaGreat

/- The document's memory at an offset, by what the code's memory is. -/
namespace Go.Proofs.YtklibmijiecbfaaGreat.Vr
open Go.RowKit Mm

def IsD (L : LY) (m : MS) (W : World) : Prop := ∃ r, IsR L r W ∧ Rel m r
theorem IsD.lt {L : LY} {m : MS} {W : World} (h : IsD L m W) : L.g < W.heap.size := h.elim fun _ h => h.1.lt
theorem IsD.on {L : LY} {m : MS} {W V : World} (h : IsD L m W) (hb : Below W.heap.size W V) : IsD L m V := h.elim fun r h => ⟨r, h.1.on hb, h.2⟩
theorem doc_of {fn : FuncId} {args : LY → Array Value} {L : LY} {r r' : RS} {v : Value} {W : World} (hR : IsR L r W) (h : ∀ B : RB, Calls Tryz.prog fn (args B.g) (RW B r 0) fun e w' => e = .returned v ∧ ∃ k', w' = RW B r' k') :
  Calls Tryz.prog fn (args L) W fun e w' => e = .returned v ∧ IsR L r' w' ∧ W.grownBy w' (some L.g) := by
 have hc := h ⟨W, L, r, hR⟩
 rw [← RW_of hR] at hc
 exact hc.mono fun e w' ⟨he, k', hw⟩ => ⟨he, by rw [hw]; exact RW_isR _ _ _, by rw [hw]; exact RW_grown ⟨W, L, r, hR⟩ _ _⟩
theorem dmap_any {L : LY} {m : MS} {W : World} (h : IsD L m W) (n : Int) (b : Bool) : Calls Tryz.prog 32 #[.pointer (some ⟨L.g, L.o, none⟩), .int .i64 n, .bool b] W fun e w' => e = .returned (.int .i64 ((mapW n b m).2 : Nat)) ∧ IsD L (mapW n b m).1 w' ∧ W.grownBy w' (some L.g) := by
 obtain ⟨r, hR, hr⟩ := h
 unfold mapW
 by_cases hn : 0 ≤ n ∧ n < 8
 ·
  rw [if_pos hn]
  obtain ⟨k, rfl⟩ : ∃ k : Nat, n = k := ⟨n.toNat, by omega⟩
  refine (doc_of (args := fun L => #[.pointer (some ⟨L.g, L.o, none⟩), .int .i64 (k : Int), .bool b]) hR fun B => (rmap_ok B r 0 k b (by omega)).mono fun e w' ⟨he, hw⟩ => ⟨he, 0, hw⟩).mono ?_
  rintro e w' ⟨he, h1, h2⟩
  exact ⟨he, ⟨_, h1, by rw [Int.toNat_natCast]; exact rel_map hr k (by omega) b⟩, h2⟩
 ·
  rw [if_neg hn]
  refine (doc_of (args := fun L => #[.pointer (some ⟨L.g, L.o, none⟩), .int .i64 n, .bool b]) hR fun B => (rmap_bad B r 0 n b (by omega)).mono fun e w' ⟨he, hw⟩ => ⟨he, 0, hw⟩).mono ?_
  rintro e w' ⟨he, h1, h2⟩
  exact ⟨he, ⟨r, h1, hr⟩, h2⟩
theorem dunmap_any {L : LY} {m : MS} {W : World} (h : IsD L m W) (n : Int) : Calls Tryz.prog 34 #[.pointer (some ⟨L.g, L.o, none⟩), .int .i64 n] W fun e w' => e = .returned (.int .i64 ((unmapW n m).2 : Nat)) ∧ IsD L (unmapW n m).1 w' ∧ W.grownBy w' (some L.g) := by
 obtain ⟨r, hR, hr⟩ := h
 unfold unmapW
 by_cases hn : 0 ≤ n ∧ n < 8
 ·
  obtain ⟨k, rfl⟩ : ∃ k : Nat, n = k := ⟨n.toNat, by omega⟩
  have hp := hr.pg k (by omega)
  rw [Int.toNat_natCast]
  cases hrd : m.rd k with
  | true =>
   rw [if_pos ⟨hn.1, hn.2, rfl⟩]
   refine (doc_of (args := fun L => #[.pointer (some ⟨L.g, L.o, none⟩), .int .i64 (k : Int)]) hR fun B => (runmap_ok B r 0 k (by omega) (hp.1 hrd)).mono fun e w' ⟨he, hw⟩ => ⟨he, 0, hw⟩).mono ?_
   rintro e w' ⟨he, h1, h2⟩
   exact ⟨he, ⟨_, h1, rel_drop hr k (by omega)⟩, h2⟩
  | false =>
   rw [if_neg (fun h => by cases h.2.2)]
   refine (doc_of (args := fun L => #[.pointer (some ⟨L.g, L.o, none⟩), .int .i64 (k : Int)]) hR fun B => (runmap_no B r 0 k (by omega) (Classical.byContradiction fun e => by rw [hp.2 e] at hrd; cases hrd)).mono fun e w' ⟨he, hw⟩ => ⟨he, 0, hw⟩).mono ?_
   rintro e w' ⟨he, h1, h2⟩
   exact ⟨he, ⟨r, h1, hr⟩, h2⟩
 ·
  rw [if_neg (fun h' => hn ⟨h'.1, h'.2.1⟩)]
  refine (doc_of (args := fun L => #[.pointer (some ⟨L.g, L.o, none⟩), .int .i64 n]) hR fun B => (runmap_bad B r 0 n (by omega)).mono fun e w' ⟨he, hw⟩ => ⟨he, 0, hw⟩).mono ?_
  rintro e w' ⟨he, h1, h2⟩
  exact ⟨he, ⟨r, h1, hr⟩, h2⟩
theorem dput_any {L : LY} {m : MS} {W : World} (h : IsD L m W) (a : Nat) (s : ByteArray) (ha : a < 18446744073709551616) (hs : s.size ≤ 1000) : Calls Tryz.prog 36 #[.pointer (some ⟨L.g, L.o, none⟩), .int .u64 a, .string s] W fun e w' => e = .returned (.int .i64 ((putW a s m).2 : Nat)) ∧ IsD L (putW a s m).1 w' ∧ W.grownBy w' (some L.g) := by
 obtain ⟨r, hR, hr⟩ := h
 refine (rput_any hR a s ha hs).mono ?_
 rintro e w' ⟨hgr, h1 | h1⟩
 ·
  have hg : ∀ i, i < s.size → goodM m (addrI a i) := fun i hi => (rel_good hr _).2 (h1.1 i hi)
  unfold putW
  rw [if_pos hg]
  exact ⟨h1.2.1, ⟨_, h1.2.2, rel_put hr a s h1.1 ha⟩, hgr⟩
 ·
  have hg : ¬ ∀ i, i < s.size → goodM m (addrI a i) := fun hg => h1.1 fun i hi => (rel_good hr _).1 (hg i hi)
  unfold putW
  rw [if_neg hg]
  exact ⟨h1.2.1, ⟨r, h1.2.2, hr⟩, hgr⟩
theorem dfree_any {L : LY} {m : MS} {W : World} (h : IsD L m W) (a : Nat) (ha : a < 18446744073709551616) : Calls Tryz.prog 117 #[.pointer (some ⟨L.g, L.o, none⟩), .int .u64 a] W fun e w' => (∃ v, e = .returned v) ∧ IsD L (freeM m a) w' ∧ W.grownBy w' (some L.g) := by
 obtain ⟨r, hR, hr⟩ := h
 unfold freeM
 by_cases hf : 8 ≤ a / 64 ∧ a / 64 < 12 ∧ a % 64 = 0 ∧ m.rd (a / 64) = true
 ·
  rw [if_pos hf]
  obtain ⟨h8, h12, h0, hrd⟩ := hf
  have hc := doc_of (args := fun L => #[.pointer (some ⟨L.g, L.o, none⟩), .int .u64 ((a / 64 * 64 : Nat) : Int)]) hR fun B => (rfree_ok B r 0 (a / 64) h8 (by omega) ((hr.pg _ (by omega)).1 hrd)).mono fun e w' ⟨he, hw⟩ => ⟨he, 0, hw⟩
  rw [show a / 64 * 64 = a by omega] at hc
  refine hc.mono ?_
  rintro e w' ⟨he, h1, h2⟩
  exact ⟨⟨_, he⟩, ⟨_, h1, rel_drop hr _ (by omega)⟩, h2⟩
 ·
  rw [if_neg hf]
  refine (doc_of (args := fun L => #[.pointer (some ⟨L.g, L.o, none⟩), .int .u64 (a : Int)]) hR fun B => (rfree_none B r 0 a ha fun hx => hf ⟨hx.2.1, by omega, hx.1, (hr.pg _ (by omega)).2 hx.2.2.2⟩).mono fun e w' ⟨he, hw⟩ => ⟨he, 0, hw⟩).mono ?_
  rintro e w' ⟨he, h1, h2⟩
  exact ⟨⟨_, he⟩, ⟨r, h1, hr⟩, h2⟩
theorem dseal_ok {L : LY} {m : MS} {W : World} (h : IsD L m W) {q : Nat} (hq : freeQ m = some q) (s : ByteArray) (hs : s.size ≤ 64) : Calls Tryz.prog 100 #[.pointer (some ⟨L.g, L.o, none⟩), .string s] W fun e w' => e = .returned (.tuple #[.int .u64 ((q * 64 : Nat) : Int), .int .i64 0]) ∧ IsD L (sealM m q s.data.toList) w' ∧ W.grownBy w' (some L.g) := by
 obtain ⟨r, hR, hr⟩ := h
 obtain ⟨h1, h2, h3, h4⟩ := freeQ_some hq
 refine (doc_of (args := fun L => #[.pointer (some ⟨L.g, L.o, none⟩), .string s]) hR fun B => rseal_ok B r 0 q s hs h1 h2 (fun n a b => (hr.pg n (by omega)).1 (h4 n a b)) (Classical.byContradiction fun e => by rw [(hr.pg q (by omega)).2 e] at h3; cases h3)).mono ?_
 rintro e w' ⟨he, k1, k2⟩
 exact ⟨he, ⟨_, k1, rel_seal hr q h1 h2 h3 s hs⟩, k2⟩
theorem dseal_full {L : LY} {m : MS} {W : World} (h : IsD L m W) (hq : freeQ m = none) (s : ByteArray) (hs : s.size ≤ 64) : Calls Tryz.prog 100 #[.pointer (some ⟨L.g, L.o, none⟩), .string s] W fun e w' => e = .returned (.tuple #[.int .u64 0, .int .i64 9]) ∧ IsD L m w' ∧ W.grownBy w' (some L.g) := by
 obtain ⟨r, hR, hr⟩ := h
 refine (doc_of (args := fun L => #[.pointer (some ⟨L.g, L.o, none⟩), .string s]) hR fun B => rseal_full B r 0 s hs fun n a b => (hr.pg n b).1 (freeQ_none hq n a b)).mono ?_
 rintro e w' ⟨he, k1, k2⟩
 exact ⟨he, ⟨r, k1, hr⟩, k2⟩
theorem dbyte_any {L : LY} {m : MS} {W : World} (h : IsD L m W) (a : Nat) (ha : a < 18446744073709551616) : Calls Tryz.prog 74 #[.pointer (some ⟨L.g, L.o, none⟩), .int .u64 a] W fun e w' => e = .returned (rbyteV (peek m a)) ∧ w' = W := by
 obtain ⟨r, hR, hr⟩ := h
 rw [rel_peek hr]
 exact rbyte_isR hR a ha
theorem dget_any {L : LY} {m : MS} {W : World} (h : IsD L m W) (a n : Nat) (ha : a < 18446744073709551616) (hn : n ≤ 512) : Calls Tryz.prog 120 #[.pointer (some ⟨L.g, L.o, none⟩), .int .u64 a, .int .i64 n] W fun e w' => e = .returned (rgetV (getR m a n)) ∧ Below W.heap.size W w' := by
 obtain ⟨r, hR, hr⟩ := h
 rw [getR_eq, rel_peek hr]
 exact rget_any hR a n ha hn hr.rb
theorem dtext_any {L : LY} {m : MS} {W : World} (h : IsD L m W) (a : Nat) (ha : a < 18446744073709551616) : Calls Tryz.prog 119 #[.pointer (some ⟨L.g, L.o, none⟩), .int .u64 a] W fun e w' => e = .returned (rtextV (Mm.textP (peek m) a 41 0 [])) ∧ Below W.heap.size W w' := by
 obtain ⟨r, hR, hr⟩ := h
 rw [rel_peek hr]
 exact rtext_any hR a ha hr.rb
theorem dsealed_any {L : LY} {m : MS} {W : World} (h : IsD L m W) : Calls Tryz.prog 73 #[.pointer (some ⟨L.g, L.o, none⟩)] W fun e w' => e = .returned (.int .i64 (cntM m 4 : Nat)) ∧ IsD L m w' ∧ W.grownBy w' (some L.g) := by
 obtain ⟨r, hR, hr⟩ := h
 rw [rel_cnt hr 4 (by omega)]
 refine (doc_of (args := fun L => #[.pointer (some ⟨L.g, L.o, none⟩)]) hR fun B => (rsealed_any B r 0).mono fun e w' ⟨he, hw⟩ => ⟨he, 0, hw⟩).mono ?_
 rintro e w' ⟨he, k1, k2⟩
 exact ⟨he, ⟨r, k1, hr⟩, k2⟩
end Go.Proofs.YtklibmijiecbfaaGreat.Vr

/- How a ward's steps go on: calls end; what comes late changes nothing. No walk in it. -/
namespace Go.Proofs.YtklibmijiecbfaaGreat
open Mm

def rankK (k : Nat) (t : TH) : Nat := match k with
 | 1 => 86
 | 2 => 3 + 41 * ((ptsOf t.call.nr).length - t.seen) - t.read.length
 | 3 => 3
 | 4 => 2
 | 5 => 1
 | _ => 0
def rank (t : TH) : Nat := rankK t.phase t
theorem rank_of {t : TH} {k : Nat} (h : t.phase = k) : rank t = rankK k t := by unfold rank; rw [h]
theorem seven {k : Nat} (h : k ≤ 6) : k = 0 ∨ k = 1 ∨ k = 2 ∨ k = 3 ∨ k = 4 ∨ k = 5 ∨ k = 6 := by omega
structure Went (n : Nat) (s s' : WS) : Prop where
 oth : ∀ k, k ≠ n → s'.T k = s.T k
 how : (s'.log = s.log ∧ (s'.T n).call = (s.T n).call ∧ 1 ≤ (s'.T n).phase ∧ (s'.T n).phase ≤ 5) ∨ ((∃ e : EN, s'.log = s.log ++ [e] ∧ e.thr = n ∧ e.call = (s.T n).call) ∧ ((s'.T n).phase = 0 ∨ (s'.T n).phase = 6))
 less : 1 ≤ rank (s.T n) → rank (s'.T n) + 1 ≤ rank (s.T n)
theorem rank_idle (ph : Nat) (h : ph = 0 ∨ ph = 6) : rank (idleT ph) = 0 := by rcases h with rfl | rfl <;> rfl
theorem went_end {n : Nat} {s : WS} {c : KL} {s0 : WS} (kind : Nat) (errno : Int) (v : VS) (ho : ∀ k, k ≠ n → s.T k = s0.T k) (hl : s.log = s0.log) (hc : (s.T n).call = c) (hc0 : (s0.T n).call = c) : Went n s0 (endS n kind errno v s) := by
 have tn : (endS n kind errno v s).T n = idleT (if kind = 3 then 6 else 0) := updF_same _ _ _
 refine ⟨fun k hk => by rw [show (endS n kind errno v s).T k = s.T k from updF_other _ _ hk]; exact ho k hk, .inr ⟨⟨⟨kind, n, (s.T n).call, v, errno⟩, by rw [show (endS n kind errno v s).log = s.log ++ _ from rfl, hl], rfl, by show (s.T n).call = _; rw [hc, hc0]⟩, ?_⟩, fun h => ?_⟩
 ·
  rw [tn]
  show (if kind = 3 then 6 else 0) = 0 ∨ (if kind = 3 then 6 else 0) = 6
  split <;> simp
 ·
  rw [tn, rank_idle _ (by split <;> simp)]
  omega
theorem went_put {n : Nat} {s : WS} {t : TH} (hc : t.call = (s.T n).call) (h1 : 1 ≤ t.phase) (h5 : t.phase ≤ 5) (hr : 1 ≤ rank (s.T n) → rank t + 1 ≤ rank (s.T n)) : Went n s (s.put n t) :=
 ⟨fun k hk => T_else _ _ hk, .inl ⟨rfl, by rw [T_put]; exact hc, by rw [T_put]; exact h1, by rw [T_put]; exact h5⟩, fun h => by rw [T_put]; exact hr h⟩
theorem went_do {n : Nat} {s : WS} (a : ACT) (next : Nat) (h1 : 1 ≤ next) (h5 : next ≤ 5) (hr : rank { s.T n with phase := next } + 1 ≤ rank (s.T n)) : Went n s (doS n a next s) := by
 unfold doS
 split
 ·
  exact went_put rfl h1 h5 fun _ => hr
 ·
  split
  ·
   exact went_end _ _ _ (fun _ _ => rfl) rfl rfl rfl
  ·
   exact went_end _ _ _ (fun _ _ => rfl) rfl rfl rfl
theorem went_seal {n : Nat} {s0 : WS} (hr0 : 2 ≤ rank (s0.T n)) : ∀ (r : List Nat) (s : WS), (∀ k, k ≠ n → s.T k = s0.T k) → s.log = s0.log → (s.T n).call = (s0.T n).call → Went n s0 (sealL n r s)
 | [], s, ho, hl, hc => by
  unfold sealL
  refine ⟨fun k hk => by rw [T_else _ _ hk]; exact ho k hk, .inl ⟨hl, by rw [T_put]; exact hc, by rw [T_put]; show 1 ≤ 5; omega, by rw [T_put]; show 5 ≤ 5; omega⟩, fun _ => ?_⟩
  rw [T_put]
  show 1 + 1 ≤ _
  omega
 | i :: r, s, ho, hl, hc => by
  unfold sealL
  split
  ·
   exact went_end _ _ _ ho hl hc rfl
  ·
   refine went_seal hr0 r _ (fun k hk => ?_) hl ?_
   ·
    show updF s.T n _ k = _
    rw [updF_other _ _ hk]
    exact ho k hk
   ·
    show (updF s.T n _ n).call = _
    rw [updF_same]
    exact hc
theorem went_exec {n : Nat} {s : WS} : ∀ (r : List Nat) (v : Nat → VL), Went n s (execL n s r v)
 | [], v => by unfold execL; exact went_end _ _ _ (fun _ _ => rfl) rfl rfl rfl
 | i :: r, v => by
  unfold execL
  split
  ·
   exact went_exec r _
  ·
   exact went_end _ _ _ (fun _ _ => rfl) rfl rfl rfl
theorem step_went {p : POL} (_hp : polF p = 0) {s : WS} (h : Inv p s) {n : Nat} (hn : n < 3) (h1 : 1 ≤ (s.T n).phase) (h5 : (s.T n).phase ≤ 5) : Went n s (stepS p n s) := by
 have ht := h.thr n hn
 unfold stepS
 split
 ·
  rename_i hph
  have hr := rank_of hph
  simp only [rankK] at hr
  unfold filterS
  split
  ·
   rename_i hj
   refine went_put rfl (by show 1 ≤ 2; omega) (by show 2 ≤ 5; omega) fun _ => ?_
   have := pts_few (s.T n).call.nr
   rw [hr]
   show 3 + 41 * ((ptsOf (s.T n).call.nr).length - (s.T n).seen) - (s.T n).read.length + 1 ≤ 86
   omega
  ·
   refine went_do _ 5 (by omega) (by omega) ?_
   rw [hr]
   show 1 + 1 ≤ 86
   omega
 ·
  rename_i hph
  have hr := rank_of hph
  simp only [rankK] at hr
  obtain ⟨hseen, hread⟩ := ht.snap hph
  have hl : (s.T n).read.length ≤ 40 := by
   by_cases hk : kindAt (s.T n).call.nr (ptAt (s.T n)) = 3
   ·
    have := hread.1 hk; omega
   ·
    exact (hread.2 hk).1
  unfold snapS
  split
  ·
   exact went_end _ _ _ (fun _ _ => rfl) rfl rfl rfl
  ·
   unfold snapL
   simp only
   split
   ·
    split
    ·
     exact went_end _ _ _ (fun _ _ => rfl) rfl rfl rfl
    ·
     by_cases hend : (s.T n).seen + 1 = (ptsOf (s.T n).call.nr).length
     ·
      rw [if_pos hend]
      refine went_put rfl (by show 1 ≤ 3; omega) (by show 3 ≤ 5; omega) fun _ => ?_
      rw [hr]
      show 3 + 1 ≤ _
      omega
     ·
      rw [if_neg hend]
      refine went_put rfl (by show 1 ≤ 2; omega) (by show 2 ≤ 5; omega) fun _ => ?_
      rw [hr]
      show 3 + 41 * ((ptsOf (s.T n).call.nr).length - ((s.T n).seen + 1)) - ([] : W8).length + 1 ≤ _
      simp only [List.length_nil]
      omega
   ·
    refine went_put rfl (by show 1 ≤ (s.T n).phase; omega) (by show (s.T n).phase ≤ 5; omega) fun _ => ?_
    rw [hr, rank_of (k := 2) (by exact hph)]
    show 3 + 41 * ((ptsOf (s.T n).call.nr).length - (s.T n).seen) - ((s.T n).read ++ [_]).length + 1 ≤ _
    rw [List.length_append, List.length_singleton]
    omega
 ·
  rename_i hph
  refine went_do _ 4 (by omega) (by omega) ?_
  rw [rank_of hph]
  show 2 + 1 ≤ 3
  omega
 ·
  rename_i hph
  exact went_seal (by rw [rank_of hph]; show 2 ≤ 2; omega) _ s (fun _ _ => rfl) rfl rfl
 ·
  unfold execS
  split
  ·
   exact went_end _ _ _ (fun _ _ => rfl) rfl rfl rfl
  ·
   exact went_exec _ _
 ·
  rename_i a1 a2 a3 a4 a5
  exfalso
  rcases (show (s.T n).phase = 1 ∨ (s.T n).phase = 2 ∨ (s.T n).phase = 3 ∨ (s.T n).phase = 4 ∨ (s.T n).phase = 5 by omega) with h | h | h | h | h
  ·
   exact a1 h
  ·
   exact a2 h
  ·
   exact a3 h
  ·
   exact a4 h
  ·
   exact a5 h

end Go.Proofs.YtklibmijiecbfaaGreat

/- Acts on a ward: no walk in it. -/
namespace Go.Proofs.YtklibmijiecbfaaGreat
open Mm

theorem step_log {p : POL} (hp : polF p = 0) {s : WS} (h : Inv p s) {n : Nat} (hn : n < 3) : (stepS p n s).log.length ≤ s.log.length + 1 := by
 have h6 := (h.thr n hn).ph
 by_cases h1 : 1 ≤ (s.T n).phase ∧ (s.T n).phase ≤ 5
 ·
  rcases (step_went hp h hn h1.1 h1.2).how with ⟨hl, _⟩ | ⟨⟨e, hl, _⟩, _⟩
  ·
   rw [hl]; omega
  ·
   rw [hl]; simp
 ·
  unfold stepS
  rcases show (s.T n).phase = 0 ∨ (s.T n).phase = 6 by omega with h | h <;> rw [h] <;> exact Nat.le_succ _
theorem stepW_inv {p : POL} (hp : polF p = 0) (hq : PolOk p) {s : WS} (h : Inv p s) (n : Int) : Inv p (stepW p n s).1 := by
 unfold stepW
 split
 ·
  split
  ·
   exact h
  ·
   split
   ·
    exact h
   ·
    exact step_inv hp hq h (by omega)
 ·
  exact h
theorem stepW_log {p : POL} (hp : polF p = 0) {s : WS} (h : Inv p s) (n : Int) : (stepW p n s).1.log.length ≤ s.log.length + 1 := by
 unfold stepW
 split
 ·
  split
  ·
   exact Nat.le_succ _
  ·
   split
   ·
    exact Nat.le_succ _
   ·
    exact step_log hp h (by omega)
 ·
  exact Nat.le_succ _
theorem enterW_inv {p : POL} {s : WS} (h : Inv p s) (n : Int) {c : KL} (hc : KlOk c) : Inv p (enterW n c s).1 := by
 unfold enterW
 split
 ·
  rename_i hn
  split
  ·
   exact h
  ·
   split
   ·
    rename_i h0
    have ht := (h.thr n.toNat (by omega)).off (.inl h0)
    have hs : (enterT c).sld = (s.T n.toNat).sld := by rw [ht]; rfl
    exact h.put hs (fun i hi => by cases hi) (enter_ok p hc)
   ·
    exact h
 ·
  exact h
theorem enterW_log (n : Int) (c : KL) (s : WS) : (enterW n c s).1.log = s.log := by
 unfold enterW
 split
 ·
  split
  ·
   rfl
  ·
   split <;> rfl
 ·
  rfl
theorem mapW_high (n : Int) (b : Bool) (m : MS) : high m (mapW n b m).1 ∧ (bytesOk m → bytesOk (mapW n b m).1) := by
 unfold mapW
 split
 ·
  exact ⟨high_map m _ (by omega) b, fun h => h⟩
 ·
  exact ⟨high_refl m, fun h => h⟩
theorem unmapW_high (n : Int) (m : MS) : high m (unmapW n m).1 ∧ (bytesOk m → bytesOk (unmapW n m).1) := by
 unfold unmapW
 split
 ·
  exact ⟨high_drop m _ (by omega), fun hb => bytesOk_write (m := setWt (setRd m n.toNat false) n.toNat false) hb _ _⟩
 ·
  exact ⟨high_refl m, fun h => h⟩
theorem putW_high {a : Nat} (ha : a < 18446744073709551616) (l : ByteArray) {m : MS} (hf : Fine m) : high m (putW a l m).1 ∧ (bytesOk m → bytesOk (putW a l m).1) := by
 unfold putW
 split
 ·
  rename_i hg
  exact ⟨high_put m a _ ha hf.wt fun i hi => hg i (by rw [Lib.size_eq]; exact hi), fun hb => bytesOk_write hb _ _⟩
 ·
  exact ⟨high_refl m, fun h => h⟩
def kcall (x : AC) : KL := ⟨x.c0.toNat, x.c1.toNat, x.c2.toNat, x.c3.toNat, x.c4.toNat, x.c5.toNat⟩
end Go.Proofs.YtklibmijiecbfaaGreat

/- The document's ward, as it stands, and what each step makes of it; the tie between the two wards, kept by every step: no walk in it. -/
namespace Go.Proofs.YtklibmijiecbfaaGreat
open Mm

structure DT where
 phase : Nat
 asked : KL
 now : Nat → Nat
 texts : Nat → W8
 arg : Nat
 vals : Nat → VL
 seals : List Nat
structure DWS where
 T : Nat → DT
 mem : MS
 log : List EN
def dIdle (ph : Nat) : DT := ⟨ph, zeroKL, fun _ => 0, fun _ => [], 0, fun _ => zeroVL, []⟩
def dEnter (c : KL) : DT := ⟨1, c, regN c, fun _ => [], 0, fun _ => zeroVL, []⟩
def DWS.put (d : DWS) (n : Nat) (t : DT) : DWS := { d with T := updF d.T n t }
def newD : DWS := ⟨fun _ => dIdle 0, zeroM, []⟩
def nextPt (nr i : Nat) : Nat := ((List.range 4).filter fun j => decide (i ≤ j) && decide (2 ≤ kindAt nr j)).headD 4
def dend (n kind : Nat) (errno : Int) (v : VS) (d : DWS) : DWS :=
 ⟨updF d.T n (dIdle (if kind = 3 then 6 else 0)), (d.T n).seals.foldl freeM d.mem, d.log ++ [⟨kind, n, (d.T n).asked, v, errno⟩]⟩
def ddone (n : Nat) (a : ACT) (phase : Nat) (d : DWS) : DWS :=
 if a.kind = 1 then d.put n { d.T n with phase := phase } else if a.kind = 2 then dend n 2 a.errno zeroVS d else if a.kind = 3 then dend n 3 0 zeroVS d else d
def dfurther (n : Nat) (t : DT) (d : DWS) : DWS := d.put n { t with arg := nextPt t.asked.nr (t.arg + 1), phase := if nextPt t.asked.nr (t.arg + 1) = 4 then 3 else t.phase }
def dsnap (n : Nat) (d : DWS) : DWS :=
 let t := d.T n
 match peek d.mem ((t.now t.arg + (t.texts t.arg).length) % 18446744073709551616) with
 | none => dend n 2 14 zeroVS d
 | some b =>
  if kindAt t.asked.nr t.arg = 2 then
   (if b = 0 then dfurther n { t with vals := updF t.vals t.arg ⟨bs (t.texts t.arg), (t.vals t.arg).ip, (t.vals t.arg).port⟩ } d
   else if (t.texts t.arg).length = 40 then dend n 2 36 zeroVS d
   else d.put n { t with texts := updF t.texts t.arg (t.texts t.arg ++ [UInt8.ofNat b]) })
  else if (t.texts t.arg ++ [UInt8.ofNat b]).length < 16 then d.put n { t with texts := updF t.texts t.arg (t.texts t.arg ++ [UInt8.ofNat b]) }
  else match readR (bs (t.texts t.arg ++ [UInt8.ofNat b])) with
   | none => dend n 2 22 zeroVS d
   | some x => dfurther n { t with texts := updF t.texts t.arg (t.texts t.arg ++ [UInt8.ofNat b]), vals := updF t.vals t.arg ⟨(t.vals t.arg).path, x.1, x.2⟩ } d
def dsealL (n : Nat) : List Nat → DWS → DWS
 | [], d => d.put n { d.T n with phase := 5 }
 | i :: r, d => match freeQ d.mem with
  | none => dend n 2 12 zeroVS d
  | some q => dsealL n r ⟨updF d.T n { d.T n with now := updF (d.T n).now i (q * 64), seals := (d.T n).seals ++ [q * 64] }, sealM d.mem q (bytesV (kindAt (d.T n).asked.nr i) ((d.T n).vals i)), d.log⟩
def dexecL (n : Nat) (d : DWS) : List Nat → (Nat → VL) → DWS
 | [], v => dend n 1 0 (vsOf v) d
 | i :: r, v => match followF d.mem (kindAt (d.T n).asked.nr i) ((d.T n).now i) with
  | .inl x => dexecL n d r (updF v i x)
  | .inr e => dend n 2 e zeroVS d
def dexec (n : Nat) (d : DWS) : DWS := if 8 < (d.T n).asked.nr then dend n 2 38 zeroVS d else dexecL n d (ptsOf (d.T n).asked.nr) fun _ => zeroVL
def dfilter (p : POL) (n : Nat) (d : DWS) : DWS :=
 if (judgeR p (d.T n).asked).1.kind = 4 then d.put n { d.T n with phase := 2, arg := nextPt (d.T n).asked.nr 0 } else ddone n (judgeR p (d.T n).asked).1 5 d
def dstepS (p : POL) (n : Nat) (d : DWS) : DWS :=
 match (d.T n).phase with
 | 1 => dfilter p n d
 | 2 => dsnap n d
 | 3 => ddone n (decideR p (d.T n).asked (vsOf (d.T n).vals)) 4 d
 | 4 => dsealL n (ptsOf (d.T n).asked.nr) d
 | 5 => dexec n d
 | _ => d

def sealsOf (t : TH) : List Nat := ((List.range 4).filter fun i => t.sld i).map t.args
structure Tie (t : TH) (d : DT) : Prop where
 phase : d.phase = t.phase
 call : d.asked = t.call
 now : ∀ i, i < 4 → d.now i = t.args i
 vals : d.vals = t.vals
 seals : d.seals = sealsOf t
 arg : t.phase = 2 → d.arg = ptAt t ∧ d.texts (ptAt t) = t.read ∧ ∀ j, t.seen < j → d.texts ((ptsOf t.call.nr).getD j 4) = []
 texts : t.phase = 1 → ∀ i, d.texts i = []
structure TieW (s : WS) (d : DWS) : Prop where
 thr : ∀ n, n < 3 → Tie (s.T n) (d.T n)
 mem : d.mem = s.mem
 log : d.log = s.log
theorem tie_idle (ph : Nat) (h : ph = 0 ∨ ph = 6) : Tie (idleT ph) (dIdle ph) :=
 ⟨rfl, rfl, fun _ _ => rfl, rfl, by show [] = sealsOf _; unfold sealsOf idleT; simp, fun h2 => by have : ph = 2 := h2; omega, fun h1 => by have : ph = 1 := h1; omega⟩
theorem tie_enter (c : KL) : Tie (enterT c) (dEnter c) :=
 ⟨rfl, rfl, fun _ _ => rfl, rfl, by show [] = sealsOf _; unfold sealsOf enterT; simp, fun h2 => by have : 1 = 2 := h2; omega, fun _ _ => rfl⟩
theorem tie_new : TieW newS newD := ⟨fun _ _ => tie_idle 0 (.inl rfl), rfl, rfl⟩
theorem TieW.put {s : WS} {d : DWS} (h : TieW s d) (n : Nat) {t : TH} {u : DT} (ht : Tie t u) : TieW (s.put n t) (d.put n u) := by
 refine ⟨fun k hk => ?_, h.mem, h.log⟩
 show Tie (updF s.T n t k) (updF d.T n u k)
 by_cases hkn : k = n
 ·
  subst hkn; rw [updF_same, updF_same]; exact ht
 ·
  rw [updF_other _ _ hkn, updF_other _ _ hkn]; exact h.thr k hk
theorem foldl_freeT (t : TH) (m : MS) : ∀ i, (((List.range i).filter fun j => t.sld j).map t.args).foldl freeM m = freeT t m i
 | 0 => rfl
 | i + 1 => by
  rw [List.range_succ, List.filter_append, List.map_append, List.foldl_append, foldl_freeT t m i]
  show _ = if t.sld i = true then freeM (freeT t m i) (t.args i) else freeT t m i
  cases hs : t.sld i
  ·
   simp [hs]
  ·
   simp [hs]
theorem tie_end {s : WS} {d : DWS} (h : TieW s d) {n : Nat} (hn : n < 3) (kind : Nat) (errno : Int) (v : VS) : TieW (endS n kind errno v s) (dend n kind errno v d) := by
 have ht := h.thr n hn
 refine ⟨fun k hk => ?_, ?_, ?_⟩
 ·
  show Tie (updF s.T n _ k) (updF d.T n _ k)
  by_cases hkn : k = n
  ·
   subst hkn; rw [updF_same, updF_same]; exact tie_idle _ (by split <;> simp)
  ·
   rw [updF_other _ _ hkn, updF_other _ _ hkn]; exact h.thr k hk
 ·
  show (d.T n).seals.foldl freeM d.mem = freeT (s.T n) s.mem 4
  rw [ht.seals, h.mem]
  exact foldl_freeT _ _ 4
 ·
  show d.log ++ _ = s.log ++ _
  rw [h.log, ht.call]
theorem tie_do {s : WS} {d : DWS} (h : TieW s d) {n : Nat} (hn : n < 3) {a : ACT} (ha : actF a = 0) (next : Nat) (h1 : next ≠ 1) (h2 : next ≠ 2) : TieW (doS n a next s) (ddone n a next d) := by
 have ht := h.thr n hn
 unfold doS ddone
 rcases act_cases ha with rfl | rfl | ⟨k, _, _, rfl⟩
 ·
  rw [if_pos rfl, if_pos rfl]
  exact h.put n ⟨rfl, ht.call, ht.now, ht.vals, ht.seals, fun e => absurd e h2, fun e => absurd e h1⟩
 ·
  rw [if_neg (by decide), if_neg (by decide), if_neg (by decide), if_neg (by decide), if_pos rfl]
  exact tie_end h hn _ _ _
 ·
  rw [if_neg (by show ¬ (2 : Int) = 1; omega), if_pos rfl, if_neg (by show ¬ (2 : Int) = 1; omega), if_pos rfl]
  exact tie_end h hn _ _ _
theorem nextPt_first {nr : Nat} (h : nr ≤ 8) (h0 : 0 < (ptsOf nr).length) : nextPt nr 0 = (ptsOf nr).getD 0 0 := by
 revert h0
 rcases nine h with rfl | rfl | rfl | rfl | rfl | rfl | rfl | rfl | rfl <;> decide
theorem nextPt_next {nr i : Nat} (h : nr ≤ 8) (hi : i < (ptsOf nr).length) : nextPt nr ((ptsOf nr).getD i 0 + 1) = (ptsOf nr).getD (i + 1) 4 := by
 have h2 := pts_few nr
 rcases show i = 0 ∨ i = 1 by omega with rfl | rfl
 ·
  revert hi
  clear h2
  rcases nine h with rfl | rfl | rfl | rfl | rfl | rfl | rfl | rfl | rfl <;> decide
 ·
  revert hi
  clear h2
  rcases nine h with rfl | rfl | rfl | rfl | rfl | rfl | rfl | rfl | rfl <;> decide
theorem pts_diff {nr i j : Nat} (hi : i < (ptsOf nr).length) (hij : i < j) : (ptsOf nr).getD j 4 ≠ (ptsOf nr).getD i 0 := by
 have hm : (ptsOf nr).getD i 0 ∈ ptsOf nr := by
  rw [List.getD_eq_getElem?_getD, List.getElem?_eq_getElem hi]
  exact List.getElem_mem hi
 have hlt := (pts_of hm).2.1
 by_cases hj : j < (ptsOf nr).length
 ·
  intro e
  rw [List.getD_eq_getElem?_getD, List.getD_eq_getElem?_getD, List.getElem?_eq_getElem hi, List.getElem?_eq_getElem hj] at e
  have := (List.getElem_inj (pts_nodup nr)).1 (show (ptsOf nr)[j] = (ptsOf nr)[i] from e)
  omega
 ·
  rw [List.getD_eq_getElem?_getD, List.getElem?_eq_none (by omega)]
  show 4 ≠ _
  omega
theorem tie_filter {p : POL} (hp : polF p = 0) {s : WS} {d : DWS} (hi : Inv p s) (h : TieW s d) {n : Nat} (hn : n < 3) (hph : (s.T n).phase = 1) : TieW (filterS p n s) (dfilter p n d) := by
 have ht := h.thr n hn
 have he := (hi.thr n hn).ent hph
 unfold filterS dfilter
 rw [ht.call]
 by_cases h4 : (judgeR p (s.T n).call).1.kind = 4
 ·
  rw [if_pos h4, if_pos h4]
  obtain ⟨h8, h0⟩ := trace_pts hp h4
  refine h.put n ⟨rfl, ht.call, ht.now, ht.vals, ht.seals, fun _ => ⟨?_, ?_, fun j _ => ht.texts hph _⟩, fun e => by have : 2 = 1 := e; omega⟩
  ·
   show nextPt _ 0 = (ptsOf (s.T n).call.nr).getD (s.T n).seen 0
   rw [show (s.T n).seen = 0 by rw [he]; rfl]
   exact nextPt_first h8 h0
  ·
   show (d.T n).texts _ = (s.T n).read
   rw [ht.texts hph, he]
   rfl
 ·
  rw [if_neg h4, if_neg h4]
  exact tie_do h hn ((judge_act hp _).resolve_left h4) 5 (by omega) (by omega)
theorem tie_further {s : WS} {d : DWS} (h : TieW s d) {n : Nat} (hn : n < 3) (hph : (s.T n).phase = 2) (h8 : (s.T n).call.nr ≤ 8) (hseen : (s.T n).seen < (ptsOf (s.T n).call.nr).length) (v : VL) (u : DT)
  (hu : u.phase = 2 ∧ u.asked = (s.T n).call ∧ u.now = (d.T n).now ∧ u.vals = updF (s.T n).vals (ptAt (s.T n)) v ∧ u.seals = (d.T n).seals ∧ u.arg = ptAt (s.T n)) (hx : ∀ i, i ≠ ptAt (s.T n) → u.texts i = (d.T n).texts i) :
  TieW (s.put n { s.T n with vals := updF (s.T n).vals (ptAt (s.T n)) v, read := [], seen := (s.T n).seen + 1, phase := if (s.T n).seen + 1 = (ptsOf (s.T n).call.nr).length then 3 else 2 }) (dfurther n u d) := by
 have ht := h.thr n hn
 obtain ⟨u1, u2, u3, u4, u5, u6⟩ := hu
 have hnx : nextPt u.asked.nr (u.arg + 1) = (ptsOf (s.T n).call.nr).getD ((s.T n).seen + 1) 4 := by
  rw [u2, u6]
  exact nextPt_next h8 hseen
 have hph2 : (if nextPt u.asked.nr (u.arg + 1) = 4 then 3 else u.phase) = if (s.T n).seen + 1 = (ptsOf (s.T n).call.nr).length then 3 else 2 := by
  rw [hnx, u1]
  by_cases hl : (s.T n).seen + 1 = (ptsOf (s.T n).call.nr).length
  ·
   rw [if_pos hl, if_pos (by rw [List.getD_eq_getElem?_getD, List.getElem?_eq_none (by omega)]; rfl)]
  ·
   rw [if_neg hl, if_neg]
   have hlt : (s.T n).seen + 1 < (ptsOf (s.T n).call.nr).length := by omega
   rw [List.getD_eq_getElem?_getD, List.getElem?_eq_getElem hlt]
   have := (pts_of (List.getElem_mem hlt)).2.1
   show (ptsOf (s.T n).call.nr)[(s.T n).seen + 1] ≠ 4
   omega
 have htx : ∀ j, (s.T n).seen < j → u.texts ((ptsOf (s.T n).call.nr).getD j 4) = [] := fun j hj => by
  rw [hx _ (pts_diff hseen hj)]
  exact (ht.arg hph).2.2 j hj
 refine h.put n ⟨hph2, u2, fun i hi => by show u.now i = _; rw [u3]; exact ht.now i hi, u4, by show u.seals = _; rw [u5]; exact ht.seals, fun e => ?_, fun e => ?_⟩
 ·
  have hl : ¬ (s.T n).seen + 1 = (ptsOf (s.T n).call.nr).length := fun hl => by
   have : (if (s.T n).seen + 1 = (ptsOf (s.T n).call.nr).length then 3 else 2) = 2 := e
   rw [if_pos hl] at this
   omega
  have heq : (ptsOf (s.T n).call.nr).getD ((s.T n).seen + 1) 4 = (ptsOf (s.T n).call.nr).getD ((s.T n).seen + 1) 0 := by
   have hlt : (s.T n).seen + 1 < (ptsOf (s.T n).call.nr).length := by omega
   rw [List.getD_eq_getElem?_getD, List.getD_eq_getElem?_getD, List.getElem?_eq_getElem hlt]
   rfl
  refine ⟨hnx.trans heq, ?_, fun j hj => htx j (by have : (s.T n).seen + 1 < j := hj; omega)⟩
  show u.texts ((ptsOf (s.T n).call.nr).getD ((s.T n).seen + 1) 0) = []
  rw [← heq]
  exact htx _ (by omega)
 ·
  have : (if (s.T n).seen + 1 = (ptsOf (s.T n).call.nr).length then 3 else 2) = 1 := e
  split at this <;> omega
end Go.Proofs.YtklibmijiecbfaaGreat

/- The tie between the two wards, kept by every step. -/
namespace Go.Proofs.YtklibmijiecbfaaGreat
open Mm

theorem snapL_whole {n : Nat} {l : W8} {s : WS} (h : wholeB (kindAt (s.T n).call.nr (ptAt (s.T n))) l = true) : snapL n l s = match valOf (kindAt (s.T n).call.nr (ptAt (s.T n))) l with
  | none => endS n 2 (valErr (kindAt (s.T n).call.nr (ptAt (s.T n))) : Nat) zeroVS s
  | some v => s.put n { s.T n with vals := updF (s.T n).vals (ptAt (s.T n)) v, read := [], seen := (s.T n).seen + 1, phase := if (s.T n).seen + 1 = (ptsOf (s.T n).call.nr).length then 3 else 2 } := by
 unfold snapL
 simp only
 rw [if_pos h]
 cases valOf (kindAt (s.T n).call.nr (ptAt (s.T n))) l <;> rfl
theorem snapL_part {n : Nat} {l : W8} {s : WS} (h : wholeB (kindAt (s.T n).call.nr (ptAt (s.T n))) l = false) : snapL n l s = s.put n { s.T n with read := l } := by
 unfold snapL
 simp only
 rw [if_neg (by rw [h]; exact Bool.false_ne_true)]
theorem tie_part {s : WS} {d : DWS} (h : TieW s d) {n : Nat} (hn : n < 3) (hph : (s.T n).phase = 2) (hseen : (s.T n).seen < (ptsOf (s.T n).call.nr).length) (l : W8) : TieW (s.put n { s.T n with read := l }) (d.put n { d.T n with asked := (s.T n).call, arg := ptAt (s.T n), texts := updF (d.T n).texts (ptAt (s.T n)) l }) := by
 have ht := h.thr n hn
 exact h.put n ⟨ht.phase, rfl, ht.now, ht.vals, ht.seals, fun _ => ⟨rfl, updF_same _ _ _, fun j hj => (updF_other _ _ (pts_diff hseen hj)).trans ((ht.arg hph).2.2 j hj)⟩, fun e => by have : (s.T n).phase = 1 := e; omega⟩
theorem tie_snap {p : POL} {s : WS} {d : DWS} (hi : Inv p s) (h : TieW s d) {n : Nat} (hn : n < 3) (hph : (s.T n).phase = 2) : TieW (snapS n s) (dsnap n d) := by
 have ht := h.thr n hn
 have hT := hi.thr n hn
 have h8 := hT.trc (by omega) (by omega)
 obtain ⟨hseen, hrd⟩ := hT.snap hph
 have hvok := hT.vok (by omega) (by omega)
 obtain ⟨ha1, ha2, _⟩ := ht.arg hph
 have hm : ptAt (s.T n) ∈ ptsOf (s.T n).call.nr := by
  unfold ptAt
  rw [List.getD_eq_getElem?_getD, List.getElem?_eq_getElem hseen]
  exact List.getElem_mem hseen
 obtain ⟨_, hat4, hkind⟩ := pts_of hm
 have hnot : ptAt (s.T n) ∉ (ptsOf (s.T n).call.nr).take (s.T n).seen := fun hin => by
  obtain ⟨j, hj, hje⟩ := List.getElem_of_mem hin
  rw [List.length_take] at hj
  rw [List.getElem_take] at hje
  have h2 : (ptsOf (s.T n).call.nr)[(s.T n).seen] = ptAt (s.T n) := by
   unfold ptAt
   rw [List.getD_eq_getElem?_getD, List.getElem?_eq_getElem hseen]
   rfl
  have := (List.getElem_inj (pts_nodup _)).1 (hje.trans h2.symm)
  omega
 have hz := (hvok (ptAt (s.T n))).2 hnot
 unfold snapS dsnap
 simp only
 rw [ha1, ha2, h.mem, ht.now _ hat4, ht.call]
 cases hpk : peek s.mem (((s.T n).args (ptAt (s.T n)) + (s.T n).read.length) % 18446744073709551616) with
 | none => exact tie_end h hn _ _ _
 | some b =>
  simp only
  have hb : b < 256 := by
   unfold peek at hpk
   split at hpk
   ·
    rw [← Option.some.inj hpk]; exact hi.mem.fine.bytes _
   ·
    cases hpk
  have hb0 : UInt8.ofNat b = 0 ↔ b = 0 := by
   constructor
   ·
    intro e
    have := congrArg UInt8.toNat e
    rw [UInt8.toNat_ofNat', Nat.mod_eq_of_lt (show b < 2 ^ 8 from hb)] at this
    exact this
   ·
    rintro rfl; rfl
  have hlast : ((s.T n).read ++ [UInt8.ofNat b]).getLast? = some (UInt8.ofNat b) := by simp
  rcases hkind with hk | hk
  ·
   have hlen := (hrd.2 (by omega)).1
   rw [if_pos hk]
   by_cases hbz : b = 0
   ·
    rw [if_pos hbz]
    have hw : wholeB (kindAt (s.T n).call.nr (ptAt (s.T n))) ((s.T n).read ++ [UInt8.ofNat b]) = true := by
     unfold wholeB
     rw [if_neg (by omega), hlast, hb0.2 hbz]
     rfl
    rw [snapL_whole hw]
    have hv : valOf (kindAt (s.T n).call.nr (ptAt (s.T n))) ((s.T n).read ++ [UInt8.ofNat b]) = some ⟨bs (s.T n).read, 0, 0⟩ := by
     unfold valOf
     rw [if_neg (by omega), hlast, hb0.2 hbz, if_pos rfl, List.dropLast_concat]
    rw [hv]
    simp only
    refine tie_further h hn hph h8 hseen _ _ ⟨ht.phase.trans hph, rfl, rfl, ?_, rfl, rfl⟩ (fun i _ => rfl)
    show updF (d.T n).vals _ _ = _
    rw [ht.vals, hz]
    rfl
   ·
    rw [if_neg hbz]
    have hne : ¬ (UInt8.ofNat b = 0) := fun e => hbz (hb0.1 e)
    by_cases h40 : (s.T n).read.length = 40
    ·
     rw [if_pos h40]
     have hw : wholeB (kindAt (s.T n).call.nr (ptAt (s.T n))) ((s.T n).read ++ [UInt8.ofNat b]) = true := by
      unfold wholeB
      rw [if_neg (by omega), List.length_append, h40]
      simp
     rw [snapL_whole hw]
     have hv : valOf (kindAt (s.T n).call.nr (ptAt (s.T n))) ((s.T n).read ++ [UInt8.ofNat b]) = none := by
      unfold valOf
      rw [if_neg (by omega), hlast, if_neg (fun e => hne (Option.some.inj e))]
     rw [hv, hk]
     exact tie_end h hn _ _ _
    ·
     rw [if_neg h40]
     have hw : wholeB (kindAt (s.T n).call.nr (ptAt (s.T n))) ((s.T n).read ++ [UInt8.ofNat b]) = false := by
      unfold wholeB
      rw [if_neg (by omega), hlast, List.length_append, List.length_singleton, decide_eq_false (by omega), Bool.or_false]
      simpa using hne
     rw [snapL_part hw]
     exact tie_part h hn hph hseen _
  ·
   have hlen := hrd.1 hk
   rw [if_neg (by omega)]
   by_cases h16 : ((s.T n).read ++ [UInt8.ofNat b]).length < 16
   ·
    rw [if_pos h16]
    have hw : wholeB (kindAt (s.T n).call.nr (ptAt (s.T n))) ((s.T n).read ++ [UInt8.ofNat b]) = false := by
     unfold wholeB
     rw [if_pos hk]
     simp only [beq_eq_false_iff_ne]
     omega
    rw [snapL_part hw]
    exact tie_part h hn hph hseen _
   ·
    rw [if_neg h16]
    have hw : wholeB (kindAt (s.T n).call.nr (ptAt (s.T n))) ((s.T n).read ++ [UInt8.ofNat b]) = true := by
     unfold wholeB
     rw [if_pos hk]
     simp only [beq_iff_eq]
     rw [List.length_append, List.length_singleton] at h16 ⊢
     omega
    rw [snapL_whole hw]
    have hv : valOf (kindAt (s.T n).call.nr (ptAt (s.T n))) ((s.T n).read ++ [UInt8.ofNat b]) = (readR (bs ((s.T n).read ++ [UInt8.ofNat b]))).map fun x => ⟨ByteArray.empty, x.1, x.2⟩ := by
     unfold valOf
     rw [if_pos hk]
    rw [hv]
    cases hr : readR (bs ((s.T n).read ++ [UInt8.ofNat b])) with
    | none =>
     simp only [Option.map_none]
     rw [hk]
     exact tie_end h hn _ _ _
    | some x =>
     simp only [Option.map_some]
     refine tie_further h hn hph h8 hseen _ _ ⟨ht.phase.trans hph, rfl, rfl, ?_, rfl, rfl⟩ (fun i hne => updF_other _ _ hne)
     show updF (d.T n).vals _ _ = _
     rw [ht.vals, hz]
     rfl
theorem seals_more {t : TH} {i x : Nat} (hi : i < 4) (hf : ∀ j, i ≤ j → t.sld j = false) : sealsOf { t with args := updF t.args i x, sld := updF t.sld i true } = sealsOf t ++ [x] := by
 have r4 : List.range 4 = [0, 1, 2, 3] := rfl
 unfold sealsOf
 simp only [r4]
 rcases show i = 0 ∨ i = 1 ∨ i = 2 ∨ i = 3 by omega with rfl | rfl | rfl | rfl
 ·
  simp [updF, hf 0 (by omega), hf 1 (by omega), hf 2 (by omega), hf 3 (by omega)]
 ·
  cases h0 : t.sld 0 <;> simp [updF, h0, hf 1 (by omega), hf 2 (by omega), hf 3 (by omega)]
 ·
  cases h0 : t.sld 0 <;> cases h1 : t.sld 1 <;> simp [updF, h0, h1, hf 2 (by omega), hf 3 (by omega)]
 ·
  cases h0 : t.sld 0 <;> cases h1 : t.sld 1 <;> cases h2 : t.sld 2 <;> simp [updF, h0, h1, h2, hf 3 (by omega)]
theorem pts_sorted (nr : Nat) : (ptsOf nr).Pairwise (· < ·) := by
 unfold ptsOf
 split
 ·
  exact List.Pairwise.filter _ List.pairwise_lt_range
 ·
  exact List.Pairwise.nil
theorem tie_sealL {n : Nat} (hn : n < 3) : ∀ (r : List Nat) {s : WS} {d : DWS}, TieW s d → r.Pairwise (· < ·) → (∀ i ∈ r, i < 4 ∧ ∀ j, i ≤ j → (s.T n).sld j = false) → TieW (sealL n r s) (dsealL n r d)
 | [], s, d, h, _, _ => by
  have ht := h.thr n hn
  unfold sealL dsealL
  exact h.put n ⟨rfl, ht.call, ht.now, ht.vals, ht.seals, fun e => by have : 5 = 2 := e; omega, fun e => by have : 5 = 1 := e; omega⟩
 | i :: r, s, d, h, hp, hs => by
  have ht := h.thr n hn
  obtain ⟨hi4, hif⟩ := hs i (by simp)
  have hp' := List.pairwise_cons.1 hp
  unfold sealL dsealL
  rw [h.mem]
  cases hq : freeQ s.mem with
  | none => exact tie_end h hn _ _ _
  | some q =>
   simp only
   refine tie_sealL hn r ⟨fun k hk => ?_, by show sealM _ q _ = sealM _ q _; rw [ht.call, ht.vals], h.log⟩ hp'.2 (fun i' hi' => ⟨(hs i' (by simp [hi'])).1, fun j hj => ?_⟩)
   ·
    show Tie (updF s.T n _ k) (updF d.T n _ k)
    by_cases hkn : k = n
    ·
     subst hkn
     rw [updF_same, updF_same]
     refine ⟨ht.phase, ht.call, fun j hj => ?_, ht.vals, ?_, fun e => ?_, fun e => ?_⟩
     ·
      show updF _ _ _ j = updF _ _ _ j
      by_cases hji : j = i
      ·
       subst hji; rw [updF_same, updF_same]
      ·
       rw [updF_other _ _ hji, updF_other _ _ hji]; exact ht.now j hj
     ·
      show (d.T k).seals ++ [q * 64] = _
      rw [seals_more hi4 hif, ht.seals]
     ·
      exact ht.arg e
     ·
      exact ht.texts e
    ·
     rw [updF_other _ _ hkn, updF_other _ _ hkn]; exact h.thr k hk
   ·
    show (updF s.T n _ n).sld j = false
    rw [updF_same]
    show updF (s.T n).sld i true j = false
    have := hp'.1 i' hi'
    rw [updF_other _ _ (by omega)]
    exact hif j (by omega)
theorem tie_execL {n : Nat} (hn : n < 3) {s : WS} {d : DWS} (h : TieW s d) : ∀ (r : List Nat) (v : Nat → VL), (∀ i ∈ r, i < 4) → TieW (execL n s r v) (dexecL n d r v)
 | [], v, _ => tie_end h hn _ _ _
 | i :: r, v, hr => by
  have ht := h.thr n hn
  unfold execL dexecL
  rw [h.mem, ht.call, ht.now i (hr i (by simp))]
  cases followF s.mem (kindAt (s.T n).call.nr i) ((s.T n).args i) with
  | inl x => exact tie_execL hn h r _ fun j hj => hr j (by simp [hj])
  | inr e => exact tie_end h hn _ _ _
theorem tie_step {p : POL} (hp : polF p = 0) {s : WS} {d : DWS} (hi : Inv p s) (h : TieW s d) {n : Nat} (hn : n < 3) : TieW (stepS p n s) (dstepS p n d) := by
 have ht := h.thr n hn
 have hT := hi.thr n hn
 have hp' := ht.phase
 rcases seven hT.ph with hph | hph | hph | hph | hph | hph | hph
 ·
  rw [show stepS p n s = s by unfold stepS; simp only [hph], show dstepS p n d = d by unfold dstepS; simp only [hp', hph]]
  exact h
 ·
  rw [show stepS p n s = filterS p n s by unfold stepS; simp only [hph], show dstepS p n d = dfilter p n d by unfold dstepS; simp only [hp', hph]]
  exact tie_filter hp hi h hn hph
 ·
  rw [show stepS p n s = snapS n s by unfold stepS; simp only [hph], show dstepS p n d = dsnap n d by unfold dstepS; simp only [hp', hph]]
  exact tie_snap hi h hn hph
 ·
  rw [show stepS p n s = judgeS p n s by unfold stepS; simp only [hph], show dstepS p n d = ddone n (decideR p (d.T n).asked (vsOf (d.T n).vals)) 4 d by unfold dstepS; simp only [hp', hph]]
  unfold judgeS
  rw [ht.call, ht.vals]
  exact tie_do h hn (decide_act hp _ _) 4 (by omega) (by omega)
 ·
  rw [show stepS p n s = sealS n s by unfold stepS; simp only [hph], show dstepS p n d = dsealL n (ptsOf (d.T n).asked.nr) d by unfold dstepS; simp only [hp', hph]]
  unfold sealS
  rw [ht.call]
  exact tie_sealL hn _ h (pts_sorted _) fun i hi' => ⟨(pts_of hi').2.1, fun j _ => (hT.plain (by omega)).1 j⟩
 ·
  rw [show stepS p n s = execS n s by unfold stepS; simp only [hph], show dstepS p n d = dexec n d by unfold dstepS; simp only [hp', hph]]
  unfold execS dexec
  rw [ht.call]
  by_cases h8 : 8 < (s.T n).call.nr
  ·
   rw [if_pos h8, if_pos h8]
   exact tie_end h hn _ _ _
  ·
   rw [if_neg h8, if_neg h8]
   exact tie_execL hn h _ _ fun i hi' => (pts_of hi').2.1
 ·
  rw [show stepS p n s = s by unfold stepS; simp only [hph], show dstepS p n d = d by unfold dstepS; simp only [hp', hph]]
  exact h
end Go.Proofs.YtklibmijiecbfaaGreat
