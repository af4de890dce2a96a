/- The bytes of a pattern: from 33 to 126, none is a quote. -/
import Derived.Test.YtkogafponpjdnaaGreatDoorK2
import Derived.Lib.TrimByte
import Derived.Test.YtkogafponpjdnaaGreatDoorK1
import Derived.Deep.RegionLaw
import Derived.Lib.QuietBelow
namespace Go.Proofs.YtkogafponpjdnaaGreatDoor.Gl
open Go.RowKit

def printB (n : Nat) : Prop := 33 ≤ n ∧ n ≤ 126 ∧ n ≠ 34
theorem name_print {n : Nat} (h : nameB n = true) : printB n := by
  simp [nameB] at h
  unfold printB
  omega
theorem sign_print {n : Nat} (h : signB n = true) : printB n := by
  simp [signB] at h
  unfold printB
  omega
theorem plain_print {n : Nat} (h : plainB n = true) : printB n := by
  simp [plainB] at h
  unfold printB
  omega
theorem member_print (s : ByteArray) (a : Nat) (ha : a < s.size) (h : memberAt s a ≠ 0) : ∀ i, a ≤ i → i < a + memberAt s a → printB (byteAt s i) := by
  intro i h1 h2
  unfold memberAt memberN at h h2
  by_cases n0 : nameB (byteAt s a) = true
  · have p0 := name_print n0
    rw [if_pos n0] at h h2
    by_cases h3 : s.size - a < 2
    · rw [if_pos h3] at h2
      obtain rfl : i = a := by omega
      exact p0
    · rw [if_neg h3] at h h2
      by_cases h4 : byteAt s (a + 1) = 45
      · rw [if_pos h4] at h h2
        by_cases h5 : s.size - a < 3
        · rw [if_pos h5] at h; exact absurd rfl h
        · rw [if_neg h5] at h h2
          by_cases h6 : nameB (byteAt s (a + 2)) = true
          · rw [if_pos h6] at h h2
            by_cases h7 : byteAt s (a + 2) < byteAt s a
            · rw [if_pos h7] at h; exact absurd rfl h
            · rw [if_neg h7] at h2
              have p2 := name_print h6
              rcases (by omega : i = a ∨ i = a + 1 ∨ i = a + 2) with rfl | rfl | rfl
              · exact p0
              · rw [h4]; unfold printB; omega
              · exact p2
          · rw [if_neg h6] at h; exact absurd rfl h
      · rw [if_neg h4] at h2
        obtain rfl : i = a := by omega
        exact p0
  · rw [if_neg n0] at h; exact absurd rfl h
theorem scan_print : ∀ (k : Nat) (s : ByteArray) (a : Nat) (f : Nat → Bool) (b : Nat) (g : Nat → Bool), scan k s a f = some (b, g) → (∀ i, a ≤ i → i < b → printB (byteAt s i)) ∧ (b < s.size → byteAt s b = 93)
  | 0, _, _, _, _, _, h => by simp [scan] at h
  | k + 1, s, a, f, b, g, h => by
    rw [scan] at h
    split at h
    · rename_i hc
      split at h
      · simp at h
      · rename_i hm
        have ih := scan_print k s _ _ b g h
        refine ⟨fun i h1 h2 => ?_, ih.2⟩
        by_cases hi : i < a + memberAt s a
        · exact member_print s a hc.1 hm i h1 hi
        · exact ih.1 i (by omega) h2
    · rename_i hc
      simp only [Option.some.injEq, Prod.mk.injEq] at h
      obtain ⟨rfl, _⟩ := h
      refine ⟨fun i h1 h2 => by omega, fun hb => ?_⟩
      exact Classical.byContradiction fun hn => hc ⟨hb, hn⟩
theorem first_print {s : ByteArray} {f : Nat → Bool} {m : Bool} {n : Nat} (h : firstR s = some (f, m, n)) : ∀ i, i < n → printB (byteAt s i) := by
  unfold firstR at h
  split at h
  · rename_i hst
    simp only [starsB, Bool.and_eq_true, decide_eq_true_eq, beq_iff_eq] at hst
    simp only [Option.some.injEq, Prod.mk.injEq] at h
    intro i hi
    rcases (by omega : i = 0 ∨ i = 1) with rfl | rfl
    · rw [hst.1.2]; unfold printB; omega
    · rw [hst.2]; unfold printB; omega
  · split at h
    · rename_i h0
      simp only [Option.some.injEq, Prod.mk.injEq] at h
      intro i hi
      obtain rfl : i = 0 := by omega
      rw [h0]; unfold printB; omega
    · split at h
      · rename_i h0
        simp only [Option.some.injEq, Prod.mk.injEq] at h
        intro i hi
        obtain rfl : i = 0 := by omega
        rw [h0]; unfold printB; omega
      · split at h
        · rename_i h0
          unfold classP at h
          cases hc : classR s with
          | none => simp [hc] at h
          | some x =>
            obtain ⟨g, k⟩ := x
            simp only [hc, Option.map_some, Option.some.injEq, Prod.mk.injEq] at h
            obtain ⟨rfl, rfl, rfl⟩ := h
            unfold classR at hc
            cases hsc : scan (s.size + 1) s (classBegin s) fun _ => false with
            | none => simp [hsc, classFin] at hc
            | some y =>
              obtain ⟨b, g'⟩ := y
              have hp := scan_print _ _ _ _ _ _ hsc
              simp only [hsc, classFin] at hc
              split at hc
              · simp at hc
              · rename_i hb
                simp only [Option.some.injEq, Prod.mk.injEq] at hc
                have hcb : classBegin s ≤ s.size ∧ (classBegin s = 1 ∨ classBegin s = 2 ∧ byteAt s 1 = 33) := by
                  unfold classBegin
                  split
                  · rename_i hn
                    simp only [notB, Bool.and_eq_true, decide_eq_true_eq, beq_iff_eq] at hn
                    exact ⟨by omega, .inr ⟨rfl, hn.2⟩⟩
                  · refine ⟨?_, .inl rfl⟩
                    by_cases hs : s.size = 0
                    · have : byteAt s 0 = 0 := by unfold byteAt; rw [Lib.size_eq] at hs; rw [List.length_eq_zero_iff.1 hs]; rfl
                      omega
                    · omega
                have hle := scan_le _ _ _ _ _ _ hcb.1 hsc
                have h93 := hp.2 (by omega)
                intro i hi
                by_cases h1 : i < classBegin s
                · rcases (by omega : i = 0 ∨ i = 1 ∧ byteAt s 1 = 33) with rfl | ⟨rfl, h33⟩
                  · rw [h0]; unfold printB; omega
                  · rw [h33]; unfold printB; omega
                · by_cases h2 : i < b
                  · exact hp.1 i (by omega) h2
                  · obtain rfl : i = b := by omega
                    rw [h93]; unfold printB; omega
        · split at h
          · rename_i h0
            unfold escR at h
            split at h
            · rename_i he
              simp only [Option.some.injEq, Prod.mk.injEq] at h
              intro i hi
              rcases (by omega : i = 0 ∨ i = 1) with rfl | rfl
              · rw [h0]; unfold printB; omega
              · exact sign_print he.2
            · simp at h
          · split at h
            · rename_i h0
              simp only [Option.some.injEq, Prod.mk.injEq] at h
              intro i hi
              obtain rfl : i = 0 := by omega
              exact plain_print h0
            · simp at h
theorem parts_print : ∀ (k : Nat) (s : ByteArray) (a : Nat) (ps : List Part), a ≤ s.size → partsR k s a = some ps → ∀ i, a ≤ i → i < s.size → printB (byteAt s i)
  | 0, _, _, _, _, h => by simp [partsR] at h
  | k + 1, s, a, ps, ha, h => by
    rw [partsR] at h
    split at h
    · rename_i hlt
      split at h
      · simp at h
      · rename_i f m n hf
        have hb := firstR_bound (by rw [size_extract]; omega) hf
        rw [size_extract] at hb
        cases hr : partsR k s (a + n) with
        | none => simp [hr] at h
        | some qs =>
          intro i h1 h2
          by_cases hi : i < a + n
          · have := first_print hf (i - a) (by omega)
            rwa [byteAt_extract s a (i - a) ha, show a + (i - a) = i by omega] at this
          · exact parts_print k s (a + n) qs (by omega) hr i (by omega) h2
    · intro i h1 h2; omega
theorem parse_print {p : ByteArray} {ps : List Part} (h : parseR p = .inr ps) : ∀ b ∈ p.data.toList, printB b.toNat := by
  unfold parseR at h
  split at h
  · cases h
  · split at h
    · cases h
    · split at h
      · cases h
      · rename_i qs hq
        intro b hb
        obtain ⟨i, hi, rfl⟩ := List.mem_iff_getElem.1 hb
        have := parts_print _ p 0 qs (Nat.zero_le _) hq i (Nat.zero_le _) (by rw [Lib.size_eq]; exact hi)
        unfold byteAt at this
        rwa [List.getD_eq_getElem?_getD, List.getElem?_eq_getElem hi, Option.getD_some] at this
theorem parse_size {p : ByteArray} {ps : List Part} (h : parseR p = .inr ps) : p.size ≤ 24 ∧ p.size ≠ 0 := by
  unfold parseR at h
  split at h
  · cases h
  · split at h
    · cases h
    · omega
end Go.Proofs.YtkogafponpjdnaaGreatDoor.Gl

/- What is written is read; what is read was written. -/
namespace Go.Proofs.YtkogafponpjdnaaGreatDoor

def I64 (n : Int) : Prop := -9223372036854775808 ≤ n ∧ n ≤ 9223372036854775807
theorem i64_small {n : Int} (h0 : 0 ≤ n) (h1 : n ≤ 4294967296) : I64 n := by unfold I64; omega
theorem i64_nat {k : Nat} (h : k ≤ 4294967296) : I64 (k : Int) := by unfold I64; omega
structure AcOk (a : ACT) : Prop where
  kind : I64 a.kind
  errno : I64 a.errno
structure NtOk (n : NT) : Prop where
  ip : n.ip < 4294967296
  bits : I64 n.bits
  lo : I64 n.lo
  hi : I64 n.hi
structure CdOk (c : CD) : Prop where
  arg : I64 c.arg
  op : I64 c.op
  v : c.v < 18446744073709551616
  m : c.m < 18446744073709551616
  net : NtOk c.net
structure RlOk (r : RL) : Prop where
  nr : I64 r.nr
  conds : ∀ c ∈ r.conds, CdOk c
  act : AcOk r.act
structure PlOk (p : POL) : Prop where
  rules : ∀ r ∈ p.rules, RlOk r
  els : AcOk p.els

theorem act_cases {a : ACT} (h : actF a = 0) : a = ⟨1, 0⟩ ∨ a = ⟨3, 0⟩ ∨ ∃ n : Nat, 1 ≤ n ∧ n ≤ 255 ∧ a = ⟨2, n⟩ := by
  obtain ⟨k, e⟩ := a
  unfold actF at h
  simp only at h
  split at h
  · cases h
  · split at h
    · cases h
    · split at h
      · cases h
      · rename_i h1 h2 h3
        rcases (by omega : k = 1 ∨ k = 3 ∨ k = 2) with rfl | rfl | rfl
        · left; congr; omega
        · right; left; congr; omega
        · right; right
          exact ⟨e.toNat, by omega, by omega, by congr; omega⟩
/-- What a right cond looks like. -/
inductive Shape : CD → Prop
  | num (a k v : Nat) (ha : a ≤ 3) (h1 : 1 ≤ k) (h6 : k ≤ 6) (hv : v < 18446744073709551616) : Shape ⟨a, k, v, 0, ByteArray.empty, noNet⟩
  | mask (a v m : Nat) (ha : a ≤ 3) (hv : v < 18446744073709551616) (hm : m < 18446744073709551616) : Shape ⟨a, 7, v, m, ByteArray.empty, noNet⟩
  | like (a : Nat) (g : ByteArray) (ha : a ≤ 3) (hg : globF g = 0) : Shape ⟨a, 8, 0, 0, g, noNet⟩
  | net (a ip b lo hi : Nat) (ha : a ≤ 3) (hip : ip < 4294967296) (hf : faultOf ip b lo hi = 0) : Shape ⟨a, 9, 0, 0, ByteArray.empty, ⟨ip, b, lo, hi⟩⟩
theorem empty_of {g : ByteArray} (h : g.size = 0) : g = ByteArray.empty := ByteArray.size_eq_zero_iff.1 h
theorem cond_shape {nr : Nat} {c : CD} (h : condF nr c = 0) (hc : CdOk c) : Shape c := by
  obtain ⟨arg, op, v, m, g, ⟨ip, b, lo, hi⟩⟩ := c
  obtain ⟨_, _, hv, hm, ⟨hip, _, _, _⟩⟩ := hc
  unfold condF at h
  simp only at h hv hm hip
  split at h
  · cases h
  · rename_i h0
    split at h
    · cases h
    · rename_i h1
      rw [not_or] at h1
      have hu := h1.2
      unfold unusedP netZ at hu
      simp only [not_or, not_and, Classical.not_not] at hu
      obtain ⟨u1, u2, u3, u4⟩ := hu
      obtain ⟨a, rfl⟩ : ∃ a : Nat, arg = a := ⟨arg.toNat, by omega⟩
      obtain ⟨k, rfl⟩ : ∃ k : Nat, op = k := ⟨op.toNat, by omega⟩
      have ha : a ≤ 3 := by omega
      by_cases k8 : k = 8
      · subst k8
        rw [if_pos (by omega)] at h
        obtain rfl : m = 0 := Classical.byContradiction fun e => by have := u1 e; omega
        obtain rfl : v = 0 := Classical.byContradiction fun e => by have := u2 e; omega
        obtain ⟨rfl, rfl, rfl, rfl⟩ : ip = 0 ∧ b = 0 ∧ lo = 0 ∧ hi = 0 := Classical.byContradiction fun e => by have := u4 (by simpa using e); omega
        exact Shape.like a g ha h
      · have eg := empty_of (Classical.byContradiction fun e => k8 (by have := u3 e; omega))
        subst eg
        by_cases k9 : k = 9
        · subst k9
          rw [if_neg (by omega), if_pos (by omega)] at h
          obtain rfl : m = 0 := Classical.byContradiction fun e => by have := u1 e; omega
          obtain rfl : v = 0 := Classical.byContradiction fun e => by have := u2 e; omega
          have hf := fault_ok (show faultOf ip b lo hi = 0 from h)
          obtain ⟨b, rfl⟩ : ∃ k : Nat, b = k := ⟨b.toNat, by omega⟩
          obtain ⟨lo, rfl⟩ : ∃ k : Nat, lo = k := ⟨lo.toNat, by omega⟩
          obtain ⟨hi, rfl⟩ : ∃ k : Nat, hi = k := ⟨hi.toNat, by omega⟩
          exact Shape.net a ip b lo hi ha hip h
        · obtain ⟨rfl, rfl, rfl, rfl⟩ : ip = 0 ∧ b = 0 ∧ lo = 0 ∧ hi = 0 := Classical.byContradiction fun e => by have := u4 (by simpa using e); omega
          by_cases k7 : k = 7
          · subst k7
            exact Shape.mask a v m ha hv hm
          · obtain rfl : m = 0 := Classical.byContradiction fun e => by have := u1 e; omega
            exact Shape.num a k v ha (by omega) (by omega) hv

theorem find_some {l : List W8} {w : W8} {i : Nat} (h : l.findIdx? (· == w) = some i) : l.getD i [] = w ∧ i < l.length := by
  obtain ⟨hi, h1, _⟩ := List.findIdx?_eq_some_iff_getElem.1 h
  refine ⟨?_, hi⟩
  rw [List.getD_eq_getElem?_getD, List.getElem?_eq_getElem hi, Option.getD_some]
  exact eq_of_beq h1
theorem call_some {w : W8} (h : ¬ findCall w < 0) : nameOf (findCall w) = w ∧ findCall w ≤ 8 := by
  unfold findCall at h ⊢
  cases hf : nameW.findIdx? (· == w) with
  | none => rw [hf] at h; exact absurd (by decide) h
  | some i =>
    have := find_some hf
    refine ⟨?_, ?_⟩
    · unfold nameOf
      simpa using this.1
    · have h2 := this.2
      simp [nameW] at h2 ⊢
      omega
theorem nine {k : Nat} (h : k ≤ 8) : k = 0 ∨ k = 1 ∨ k = 2 ∨ k = 3 ∨ k = 4 ∨ k = 5 ∨ k = 6 ∨ k = 7 ∨ k = 8 := by omega
theorem call_name {nr : Int} (h0 : 0 ≤ nr) (h8 : nr ≤ 8) : findCall (nameOf nr) = nr := by
  obtain ⟨k, rfl⟩ : ∃ k : Nat, nr = k := ⟨nr.toNat, by omega⟩
  rcases nine (show k ≤ 8 by omega) with rfl | rfl | rfl | rfl | rfl | rfl | rfl | rfl | rfl <;> decide
theorem six {k : Nat} (h1 : 1 ≤ k) (h6 : k ≤ 6) : k = 1 ∨ k = 2 ∨ k = 3 ∨ k = 4 ∨ k = 5 ∨ k = 6 := by omega
theorem op6_some {w : W8} (h : findOp6 w ≠ 0) : signOf (findOp6 w) = w ∧ findOp6 w ≤ 6 := by
  unfold findOp6 at h ⊢
  cases hf : (signW.take 6).findIdx? (· == w) with
  | none => rw [hf] at h; exact absurd rfl h
  | some i =>
    have h1 := find_some hf
    have h2 := h1.2
    simp [signW] at h2
    refine ⟨?_, by simp only; omega⟩
    rw [← h1.1]
    rcases six (k := i + 1) (by omega) (by omega) with h | h | h | h | h | h <;> (obtain rfl : i = _ := Nat.succ.inj h; rfl)

theorem trimQ_of {g : W8} (h : (34 : UInt8) ∉ g) : trimQ (34 :: (g ++ [34])) = g := by
  unfold trimQ Lib.trimB Lib.trimLeftB Lib.trimRightB
  have e : (34 :: (g ++ [34])).reverse = 34 :: (g.reverse ++ [34]) := by simp
  rw [e]
  cases hg : g.reverse with
  | nil =>
    have : g = [] := by simpa using hg
    subst this
    decide
  | cons x r =>
    have hx : x ≠ 34 := fun e => h (by rw [← List.mem_reverse, hg, e]; simp)
    have e1 : List.dropWhile (· == (34 : UInt8)) (34 :: (x :: r ++ [34])) = x :: r ++ [34] := by simp [hx]
    rw [e1, ← hg]
    simp only [List.reverse_append, List.reverse_reverse, List.reverse_cons, List.reverse_nil, List.nil_append, List.singleton_append]
    cases g with
    | nil => simp
    | cons y z =>
      have hy : y ≠ 34 := fun e => h (by simp [e])
      simp [hy]
theorem glob_print {g : ByteArray} (h : globF g = 0) : (∀ b ∈ g.data.toList, Gl.printB b.toNat) ∧ g.size ≤ 24 := by
  unfold globF at h
  cases hp : Gl.parseR g with
  | inl n =>
    rw [hp] at h
    simp only at h
    unfold Gl.parseR at hp
    repeat' split at hp
    all_goals simp at hp
    all_goals omega
  | inr ps => exact ⟨Gl.parse_print hp, (Gl.parse_size hp).1⟩
theorem glob_noquote {g : ByteArray} (h : globF g = 0) : (34 : UInt8) ∉ g.data.toList := fun hm => by
  have := ((glob_print h).1 34 hm).2.2
  exact this rfl

theorem readCond_cond {c : CD} (h : Shape c) (r : List W8) : readCond (condW c ++ r) = (c, r) := by
  cases h with
  | num a k v ha h1 h6 hv =>
    have e1 := numU_dec a (by omega)
    have e2 := numU_dec v hv
    have e3 := toI_small a (by omega)
    rcases six h1 h6 with rfl | rfl | rfl | rfl | rfl | rfl <;> simp [readCond, condW, signOf, signW, findOp, e1, e2, e3, List.findIdx?, List.findIdx?.go]
  | mask a v m ha hv hm =>
    have e1 := numU_dec a (by omega)
    have e2 := numU_dec v hv
    have e4 := numU_dec m hm
    have e3 := toI_small a (by omega)
    simp [readCond, condW, signOf, signW, findOp, e1, e2, e3, e4, List.findIdx?, List.findIdx?.go]
  | like a g ha hg =>
    have e1 := numU_dec a (by omega)
    have e3 := toI_small a (by omega)
    have e2 := trimQ_of (glob_noquote hg)
    simp [readCond, condW, signOf, signW, findOp, e1, e2, e3, List.findIdx?, List.findIdx?.go]
  | net a ip b lo hi ha hip hf =>
    have e1 := numU_dec a (by omega)
    have e3 := toI_small a (by omega)
    have e2 := parse_text hip hf
    simp [readCond, condW, signOf, signW, findOp, e1, e3, netRead, netW, e2, List.findIdx?, List.findIdx?.go]
theorem docCond_cond {c : CD} (h : Shape c) (r : List W8) : docCond (condW c ++ r) = some (c, (condW c).length) := by
  cases h with
  | num a k v ha h1 h6 hv =>
    have e1 := fig_dec a (by omega)
    have e2 := fig_dec v hv
    rcases six h1 h6 with rfl | rfl | rfl | rfl | rfl | rfl <;> simp [docCond, condW, signOf, signW, findOp6, e1, e2, ha, List.findIdx?, List.findIdx?.go]
  | mask a v m ha hv hm =>
    have e1 := fig_dec a (by omega)
    have e2 := fig_dec v hv
    have e4 := fig_dec m hm
    simp [docCond, docMask, condW, signOf, signW, e1, e2, e4, ha]
  | like a g ha hg =>
    have e1 := fig_dec a (by omega)
    have e2 : (34 :: (g.data.toList ++ [34])).getLast? = some (34 : UInt8) := by rw [← List.cons_append, List.getLast?_concat]
    simp [docCond, condW, signOf, signW, e1, ha, e2]
  | net a ip b lo hi ha hip hf =>
    have e1 := fig_dec a (by omega)
    have e2 := parse_text hip hf
    simp [docCond, condW, signOf, signW, e1, ha, netW, e2]
end Go.Proofs.YtkogafponpjdnaaGreatDoor

/- .. of whole policies. -/
namespace Go.Proofs.YtkogafponpjdnaaGreatDoor

theorem readAct_act {a : ACT} (h : actF a = 0) (r : List W8) : readAct (actW a ++ r) = (a, r) := by
  rcases act_cases h with rfl | rfl | ⟨n, h1, h2, rfl⟩
  · rfl
  · rfl
  · have e1 := numU_dec n (by omega)
    have e2 := toI_small n (by omega)
    simp [readAct, actW, wDeny, wAllow, wKill, e1, e2]
theorem docAct_act {a : ACT} (h : actF a = 0) (r : List W8) : docAct (actW a ++ r) = some (a, (actW a).length) := by
  rcases act_cases h with rfl | rfl | ⟨n, h1, h2, rfl⟩
  · rfl
  · rfl
  · have e1 := fig_dec n (by omega)
    have e2 : n < 1000 := by omega
    simp [docAct, docDeny, actW, wDeny, wAllow, wKill, e1, e2]
theorem actW_ne (a : ACT) : actW a ≠ [] := by
  unfold actW
  split
  · simp
  · split <;> simp
theorem docAct_some {l : List W8} {a : ACT} {n : Nat} (h : docAct l = some (a, n)) : l.take n = actW a ∧ 1 ≤ n ∧ n ≤ l.length ∧ AcOk a := by
  cases l with
  | nil => cases h
  | cons w r =>
    rw [docAct] at h
    split at h
    · rename_i e
      simp only [Option.some.injEq, Prod.mk.injEq] at h
      obtain ⟨rfl, rfl⟩ := h
      subst e
      exact ⟨rfl, by omega, by simp, ⟨i64_small (by decide) (by decide), i64_small (by decide) (by decide)⟩⟩
    · split at h
      · rename_i e
        simp only [Option.some.injEq, Prod.mk.injEq] at h
        obtain ⟨rfl, rfl⟩ := h
        subst e
        exact ⟨rfl, by omega, by simp, ⟨i64_small (by decide) (by decide), i64_small (by decide) (by decide)⟩⟩
      · split at h
        · rename_i e
          cases r with
          | nil => cases h
          | cons x t =>
            rw [docDeny] at h
            split at h
            · rename_i hx
              simp only [Option.some.injEq, Prod.mk.injEq] at h
              obtain ⟨rfl, rfl⟩ := h
              subst e
              have := fig_ok hx.1
              refine ⟨?_, by omega, by simp, ⟨i64_nat (k := 2) (by omega), i64_nat (by omega)⟩⟩
              simp only [actW, List.take_succ_cons, List.take_zero]
              rw [if_neg (by decide), if_neg (by decide)]
              simp only [Int.toNat_natCast]
              rw [← this]
            · cases h
        · cases h
theorem noNet_ok : NtOk noNet := ⟨by decide, i64_small (by decide) (by decide), i64_small (by decide) (by decide), i64_small (by decide) (by decide)⟩
theorem tail_quotes {x : W8} (h2 : 2 ≤ x.length) (h0 : x.head? = some 34) (h1 : x.getLast? = some 34) : x = 34 :: (x.tail.dropLast ++ [34]) := by
  cases x with
  | nil => simp at h2
  | cons a t =>
    simp only [List.head?_cons, Option.some.injEq] at h0
    subst h0
    have ht : t ≠ [] := fun e => by rw [e] at h2; simp at h2
    rw [List.getLast?_cons_of_ne_nil ht] at h1
    rw [List.tail_cons]
    obtain ⟨hne, hl⟩ := List.getLast?_eq_some_iff.1 h1 |> fun ⟨ys, e⟩ => (⟨ht, ⟨ys, e⟩⟩ : t ≠ [] ∧ ∃ ys, t = ys ++ [34])
    obtain ⟨ys, rfl⟩ := hl
    simp
theorem docCond_some {l : List W8} {c : CD} {n : Nat} (h : docCond l = some (c, n)) : l.take n = condW c ∧ 3 ≤ n ∧ n ≤ l.length ∧ CdOk c := by
  match l, h with
  | a :: s :: x :: r, h =>
    rw [docCond] at h
    split at h
    · rename_i ha
      have ea := fig_ok ha.1
      have hI : I64 (figN a : Int) := i64_nat (by omega)
      have hO : ∀ k : Nat, k ≤ 9 → I64 (k : Int) := fun k hk => i64_nat (by omega)
      split at h
      · rename_i es
        subst es
        match r, h with
        | y :: z :: t, h =>
          rw [docMask] at h
          split at h
          · rename_i hy
            simp only [Option.some.injEq, Prod.mk.injEq] at h
            obtain ⟨rfl, rfl⟩ := h
            have ex := fig_ok hy.2.1
            have ez := fig_ok hy.2.2
            refine ⟨?_, by omega, by simp, ⟨hI, hO 7 (by omega), figN_lt z, figN_lt x, noNet_ok⟩⟩
            rw [hy.1]
            simp [condW, signOf, signW, ← ea, ← ex, ← ez]
          · cases h
      · split at h
        · rename_i es
          subst es
          split at h
          · rename_i hq
            simp only [Option.some.injEq, Prod.mk.injEq] at h
            obtain ⟨rfl, rfl⟩ := h
            refine ⟨?_, by omega, by simp, ⟨hI, hO 8 (by omega), by simp, by simp, noNet_ok⟩⟩
            have := tail_quotes hq.1 hq.2.1 hq.2.2
            simp [condW, signOf, signW, ← ea, ← this]
          · cases h
        · split at h
          · rename_i es
            subst es
            split at h
            · rename_i ip b lo hi hp
              simp only [Option.some.injEq, Prod.mk.injEq] at h
              obtain ⟨rfl, rfl⟩ := h
              obtain ⟨hip, hf, hx⟩ := parse_some hp
              have hk := fault_ok hf
              refine ⟨?_, by omega, by simp, ⟨hI, hO 9 (by omega), by simp, by simp, ⟨hip, i64_nat (by omega), i64_nat (by omega), i64_nat (by omega)⟩⟩⟩
              simp [condW, signOf, signW, ← ea, netW, hx]
            · cases h
          · split at h
            · rename_i ho
              simp only [Option.some.injEq, Prod.mk.injEq] at h
              obtain ⟨rfl, rfl⟩ := h
              have hs := op6_some ho.1
              have ex := fig_ok ho.2
              refine ⟨?_, by omega, by simp, ⟨hI, hO _ (by omega), figN_lt x, by simp, noNet_ok⟩⟩
              have n7 : ¬ ((findOp6 s : Int) = 7) := by omega
              have n8 : ¬ ((findOp6 s : Int) = 8) := by omega
              have n9 : ¬ ((findOp6 s : Int) = 9) := by omega
              simp only [condW, if_neg n7, if_neg n8, if_neg n9, hs.1, Int.toNat_natCast, ← ea, ← ex]
              rfl
            · cases h
    · cases h

/-- All conds of a list are right, for some call. -/
def ShapeAll (cs : List CD) : Prop := ∀ c ∈ cs, Shape c
theorem condW_ne (c : CD) : condW c ≠ [] := by unfold condW; simp
theorem condW_pos (c : CD) : 3 ≤ (condW c).length := by
  unfold condW
  split
  · simp
  · split
    · simp
    · split <;> simp
theorem readConds_conds : ∀ (cs : List CD) (f : Bool) (n : Nat), ShapeAll cs → (condsW f cs).length ≤ n → readConds n (condsW f cs) = cs
  | [], _, n, _, _ => by cases n <;> simp [condsW, readConds]
  | c :: r, f, n, h, hn => by
    cases n with
    | zero => simp [condsW] at hn
    | succ n =>
      rw [condsW] at hn ⊢
      rw [readConds, if_neg (by simp), List.tail_cons, readCond_cond (h c (by simp))]
      simp only [List.length_cons, List.length_append] at hn
      rw [readConds_conds r false n (fun x hx => h x (by simp [hx])) (by omega)]
theorem docConds_conds : ∀ (cs : List CD) (f : Bool) (n : Nat), ShapeAll cs → (condsW f cs).length ≤ n → docConds n f (condsW f cs) = some cs
  | [], _, n, _, _ => by cases n <;> simp [condsW, docConds]
  | c :: r, f, n, h, hn => by
    cases n with
    | zero => simp [condsW] at hn
    | succ n =>
      rw [condsW] at hn ⊢
      simp only [List.length_cons, List.length_append] at hn
      rw [docConds]
      simp only [if_true, docCond_cond (h c (by simp)), List.drop_left, docConds_conds r false n (fun x hx => h x (by simp [hx])) (by omega)]
      rfl
theorem docConds_some : ∀ (n : Nat) (f : Bool) (l : List W8) (cs : List CD), docConds n f l = some cs → condsW f cs = l ∧ ∀ c ∈ cs, CdOk c
  | n, f, [], cs, h => by
    rw [docConds] at h
    simp only [Option.some.injEq] at h
    subst h
    exact ⟨rfl, fun c hc => by cases hc⟩
  | 0, f, w :: r, cs, h => by
    rw [docConds] at h
    cases h
  | n + 1, f, w :: r, cs, h => by
      rw [docConds] at h
      by_cases e : w = if f then wIf else wAnd
      · rw [if_pos e] at h
        cases hk : docCond r with
        | none => rw [hk] at h; cases h
        | some ck =>
          obtain ⟨c, k⟩ := ck
          rw [hk] at h
          simp only at h
          cases hd : docConds n false (r.drop k) with
          | none => rw [hd] at h; cases h
          | some ds =>
            rw [hd] at h
            simp only [Option.map_some, Option.some.injEq] at h
            subst h
            have h1 := docCond_some hk
            have h2 := docConds_some n false _ ds hd
            refine ⟨?_, fun x hx => ?_⟩
            · rw [condsW, ← e, ← h1.1, h2.1, List.take_append_drop]
            · rcases List.mem_cons.1 hx with rfl | hx
              · exact h1.2.2.2
              · exact h2.2 x hx
      · rw [if_neg e] at h; cases h

/-- What a right rule is. -/
structure RuleOk (r : RL) : Prop where
  nr0 : 0 ≤ r.nr
  nr8 : r.nr ≤ 8
  few : r.conds.length ≤ 4
  conds : ShapeAll r.conds
  act : actF r.act = 0
theorem rule_ok {r : RL} (h : ruleF r = 0) (hr : RlOk r) : RuleOk r := by
  unfold ruleF at h
  split at h
  · cases h
  · split at h
    · cases h
    · split at h
      · rename_i h0 h1 h2
        refine ⟨by omega, by omega, by omega, fun c hc => ?_, h⟩
        exact cond_shape ((firstF_zero.1 h2) _ (List.mem_map.2 ⟨c, hc, rfl⟩)) (hr.conds c hc)
      · rename_i h3
        exact absurd h h3
structure PolOk (p : POL) : Prop where
  few : p.rules.length ≤ 12
  rules : ∀ r ∈ p.rules, RuleOk r
  els : actF p.els = 0
theorem pol_ok {p : POL} (h : polF p = 0) (hp : PlOk p) : PolOk p := by
  unfold polF at h
  split at h
  · cases h
  · split at h
    · rename_i h0 h1
      exact ⟨by omega, fun r hr => rule_ok ((firstF_zero.1 h) _ (List.mem_map.2 ⟨r, hr, rfl⟩)) (hp.rules r hr), h1⟩
    · rename_i h2
      exact absurd h h2

theorem ruleW_ne (r : RL) : ruleW r ≠ [] := by unfold ruleW; simp
/-- No word has a blank or an end of line. -/
def Plain (w : W8) : Prop := (32 : UInt8) ∉ w ∧ (10 : UInt8) ∉ w
theorem plain_of {w : W8} (h : ∀ b ∈ w, 33 ≤ b.toNat) : Plain w := ⟨fun hm => by have := h 32 hm; simp at this, fun hm => by have := h 10 hm; simp at this⟩
theorem dig_33 {w : W8} (h : w.all isDig = true) : ∀ b ∈ w, 33 ≤ b.toNat := fun b hb => by
  have := List.all_eq_true.1 h b hb
  unfold isDig at this
  rw [Bool.and_eq_true, decide_eq_true_eq] at this
  omega
theorem dec_33 (n : Nat) : ∀ b ∈ Lib.decDigits n, 33 ≤ b.toNat := dig_33 (dec_all n)
theorem joinN_33 : ∀ (cs : List UInt8) (ns : List Nat), (∀ c ∈ cs, 33 ≤ c.toNat) → ∀ b ∈ joinN cs ns, 33 ≤ b.toNat
  | _, [], _, b, hb => by simp [joinN] at hb
  | [], n :: r, _, b, hb => dec_33 n b (by simpa [joinN] using hb)
  | c :: cs, n :: r, h, b, hb => by
    simp only [joinN, List.mem_append, List.mem_cons] at hb
    rcases hb with hb | rfl | hb
    · exact dec_33 n b hb
    · exact h _ (by simp)
    · exact joinN_33 cs r (fun x hx => h x (by simp [hx])) b hb
theorem actW_plain {a : ACT} (w : W8) (hw : w ∈ actW a) : Plain w := by
  unfold actW at hw
  apply plain_of
  split at hw
  · rw [List.mem_singleton] at hw; subst hw; decide
  · split at hw
    · rw [List.mem_singleton] at hw; subst hw; decide
    · simp only [List.mem_cons, List.not_mem_nil, or_false] at hw
      rcases hw with rfl | rfl
      · decide
      · exact dec_33 _
theorem condW_plain {c : CD} (h : Shape c) (w : W8) (hw : w ∈ condW c) : Plain w := by
  apply plain_of
  cases h with
  | num a k v ha h1 h6 hv =>
    rcases six h1 h6 with rfl | rfl | rfl | rfl | rfl | rfl <;>
    · simp [condW, signOf, signW] at hw
      rcases hw with rfl | rfl | rfl
      · exact dec_33 _
      · decide
      · exact dec_33 _
  | mask a v m ha hv hm =>
    simp [condW, signOf, signW] at hw
    rcases hw with rfl | rfl | rfl | rfl | rfl
    · exact dec_33 _
    · decide
    · exact dec_33 _
    · decide
    · exact dec_33 _
  | like a g ha hg =>
    simp [condW, signOf, signW] at hw
    rcases hw with rfl | rfl | rfl
    · exact dec_33 _
    · decide
    · intro b hb
      simp only [List.mem_cons, List.mem_append, List.not_mem_nil, or_false] at hb
      rcases hb with rfl | hb | rfl
      · decide
      · exact ((glob_print hg).1 b (by simpa using hb)).1
      · decide
  | net a ip b lo hi ha hip hf =>
    simp [condW, signOf, signW] at hw
    rcases hw with rfl | rfl | rfl
    · exact dec_33 _
    · decide
    · exact joinN_33 _ _ (by decide)
theorem condsW_plain : ∀ (cs : List CD) (f : Bool), ShapeAll cs → ∀ w ∈ condsW f cs, Plain w
  | [], _, _, w, hw => by cases hw
  | c :: r, f, h, w, hw => by
    simp only [condsW, List.mem_cons, List.mem_append] at hw
    rcases hw with rfl | hw | hw
    · cases f
      · exact plain_of (by decide)
      · exact plain_of (by decide)
    · exact condW_plain (h c (by simp)) w hw
    · exact condsW_plain r false (fun x hx => h x (by simp [hx])) w hw
theorem name_plain {nr : Int} (h0 : 0 ≤ nr) (h8 : nr ≤ 8) : Plain (nameOf nr) := by
  obtain ⟨k, rfl⟩ : ∃ k : Nat, nr = k := ⟨nr.toNat, by omega⟩
  rcases nine (show k ≤ 8 by omega) with rfl | rfl | rfl | rfl | rfl | rfl | rfl | rfl | rfl <;> exact plain_of (by decide)
theorem ruleW_plain {r : RL} (h : RuleOk r) (w : W8) (hw : w ∈ ruleW r) : Plain w := by
  simp only [ruleW, List.mem_append, List.mem_cons] at hw
  rcases hw with hw | rfl | hw
  · exact actW_plain w hw
  · exact name_plain h.nr0 h.nr8
  · exact condsW_plain _ _ h.conds w hw
theorem join_notin (c x : UInt8) (hx : x ≠ c) : ∀ ws : List W8, (∀ w ∈ ws, x ∉ w) → x ∉ joinC c ws
  | [], _ => by simp [joinC]
  | [w], h => h w (by simp)
  | w :: y :: r, h => by
    rw [joinC]
    simp only [List.mem_append, List.mem_cons, not_or]
    exact ⟨h w (by simp), hx, join_notin c x hx (y :: r) fun v hv => h v (by simp [hv])⟩

theorem readRule_rule {r : RL} (h : RuleOk r) : readRule (joinC 32 (ruleW r)) = r := by
  have e := split_join 32 (ruleW r) (ruleW_ne r) fun w hw => (ruleW_plain h w hw).1
  unfold readRule
  simp only [e]
  unfold ruleW
  rw [readAct_act h.act]
  simp only [List.headD_cons, List.tail_cons, call_name h.nr0 h.nr8, readConds_conds r.conds true _ h.conds (Nat.le_refl _)]
theorem docRule_rule {r : RL} (h : RuleOk r) : docRule (ruleW r) = some r := by
  unfold docRule
  have e1 : docAct (ruleW r) = some (r.act, (actW r.act).length) := docAct_act h.act _
  have e2 : (ruleW r).drop ((actW r.act).length + 1) = condsW true r.conds := by
    unfold ruleW
    rw [List.drop_append, List.drop_eq_nil_of_le (by omega)]
    simp
  have e3 : (ruleW r).getD (actW r.act).length [] = nameOf r.nr := by
    unfold ruleW
    rw [List.getD_eq_getElem?_getD, List.getElem?_append_right (Nat.le_refl _)]
    simp
  have hl : (ruleW r).length = (actW r.act).length + 1 + (condsW true r.conds).length := by unfold ruleW; simp; omega
  rw [e1]
  simp only
  rw [if_pos (by omega), e2, docConds_conds r.conds true _ h.conds (by omega), e3, call_name h.nr0 h.nr8]
  simp only
  rw [if_neg (by have := h.nr0; omega)]
theorem docRule_some {l : List W8} {r : RL} (h : docRule l = some r) : ruleW r = l ∧ RlOk r := by
  unfold docRule at h
  split at h
  · rename_i a n ha
    have h1 := docAct_some ha
    split at h
    · rename_i hn
      split at h
      · rename_i cs hc
        have h2 := docConds_some _ _ _ _ hc
        split at h
        · cases h
        · rename_i hcall
          simp only [Option.some.injEq] at h
          subst h
          have h3 := call_some hcall
          refine ⟨?_, ⟨i64_small (by simp only; omega) (by simp only; omega), h2.2, h1.2.2.2⟩⟩
          unfold ruleW
          simp only
          rw [h2.1, h3.1, ← h1.1, List.getD_eq_getElem?_getD, List.getElem?_eq_getElem hn, Option.getD_some, List.getElem_cons_drop, List.take_append_drop]
      · cases h
    · cases h
  · cases h

/-- The lines of a policy's text. -/
def linesP (p : POL) : List W8 := joinC 32 (wElse :: actW p.els) :: p.rules.map fun r => joinC 32 (ruleW r)
theorem textP_lines (p : POL) : textP p = (linesP p).flatMap fun w => w ++ [10] := by
  unfold textP linesP
  simp [List.flatMap_map]
theorem head_plain (a : ACT) (w : W8) (hw : w ∈ wElse :: actW a) : Plain w := by
  rcases List.mem_cons.1 hw with rfl | hw
  · exact plain_of (by decide)
  · exact actW_plain w hw
theorem linesP_plain {p : POL} (h : PolOk p) (w : W8) (hw : w ∈ linesP p) : (10 : UInt8) ∉ w := by
  unfold linesP at hw
  rcases List.mem_cons.1 hw with rfl | hw
  · exact join_notin 32 10 (by decide) _ fun v hv => (head_plain _ v hv).2
  · obtain ⟨r, hr, rfl⟩ := List.mem_map.1 hw
    exact join_notin 32 10 (by decide) _ fun v hv => (ruleW_plain (h.rules r hr) v hv).2
theorem trimN_text (p : POL) : trimN (textP p) = joinC 10 (linesP p) := by
  have e : textP p = joinC 10 (linesP p) ++ [10] := by
    rw [textP_lines, ← lines_join 10, join_app 10 [[]] (by simp) _ (by unfold linesP; simp)]
    rfl
  unfold trimN Lib.trimSuffix
  rw [e, if_pos (by simp [Lib.hasSuffix])]
  simp
/-- T1: what is written is read as it was, by the code. -/
theorem readP_text {p : POL} (h : PolOk p) : readP (textP p) = p := by
  unfold readP
  rw [trimN_text, split_join 10 (linesP p) (by unfold linesP; simp) (linesP_plain h)]
  have e1 : (linesP p).headD [] = joinC 32 (wElse :: actW p.els) := rfl
  have e2 : (linesP p).tail = p.rules.map fun r => joinC 32 (ruleW r) := rfl
  have e4 : (readAct (actW p.els)).1 = p.els := by
    have := readAct_act h.els []
    rw [List.append_nil] at this
    rw [this]
  rw [e1, e2, split_join 32 _ (by simp) fun w hw => (head_plain _ w hw).1, List.tail_cons, e4, List.map_map]
  have e3 : p.rules.map (readRule ∘ fun r => joinC 32 (ruleW r)) = p.rules := by
    have : p.rules.map (readRule ∘ fun r => joinC 32 (ruleW r)) = p.rules.map id := List.map_congr_left fun r hr => readRule_rule (h.rules r hr)
    rw [this, List.map_id]
  rw [e3]
theorem docRules_map : ∀ rs : List RL, (∀ r ∈ rs, RuleOk r) → docRules (rs.map fun r => joinC 32 (ruleW r)) = some rs
  | [], _ => rfl
  | r :: t, h => by
    rw [List.map_cons, docRules, split_join 32 (ruleW r) (ruleW_ne r) fun w hw => (ruleW_plain (h r (by simp)) w hw).1, docRule_rule (h r (by simp)), docRules_map t fun x hx => h x (by simp [hx])]
    rfl
theorem docRules_some : ∀ (ls : List W8) (rs : List RL), docRules ls = some rs → (rs.map fun r => joinC 32 (ruleW r)) = ls ∧ ∀ r ∈ rs, RlOk r
  | [], rs, h => by
    simp only [docRules, Option.some.injEq] at h
    subst h
    exact ⟨rfl, fun r hr => by cases hr⟩
  | w :: t, rs, h => by
    rw [docRules] at h
    split at h
    · rename_i x hx
      cases hd : docRules t with
      | none => rw [hd] at h; cases h
      | some ys =>
        rw [hd] at h
        simp only [Option.map_some, Option.some.injEq] at h
        subst h
        have h1 := docRule_some hx
        have h2 := docRules_some t ys hd
        refine ⟨?_, fun r hr => ?_⟩
        · rw [List.map_cons, h2.1, h1.1, join_split]
        · rcases List.mem_cons.1 hr with rfl | hr
          · exact h1.2
          · exact h2.2 r hr
    · cases h
/-- T2: .. by the document. -/
theorem docP_text {p : POL} (h : PolOk p) (hf : polF p = 0) : docP (textP p) = some p := by
  unfold docP
  rw [textP_lines, split_lines 10 _ (linesP_plain h)]
  have hl : (linesP p ++ [[]]).length = p.rules.length + 2 := by unfold linesP; simp
  have h12 := h.few
  have e1 : (linesP p ++ [[]]).headD [] = joinC 32 (wElse :: actW p.els) := rfl
  have e2 : (linesP p ++ [[]]).tail.dropLast = p.rules.map fun r => joinC 32 (ruleW r) := by unfold linesP; simp
  simp only
  rw [if_neg (by rw [hl]; simp; omega), e1, e2, split_join 32 _ (by simp) fun w hw => (head_plain _ w hw).1, docRules_map p.rules h.rules]
  have e3 : docHead (wElse :: actW p.els) = some p.els := by
    have := docAct_act h.els []
    rw [List.append_nil] at this
    unfold docHead
    simp only [if_true, this]
  rw [e3]
  simp only
  rw [if_pos hf]
/-- T3: what the document reads is the text of what it reads. -/
theorem docP_some {s : W8} {p : POL} (h : docP s = some p) : textP p = s ∧ polF p = 0 ∧ PlOk p := by
  unfold docP at h
  simp only at h
  split at h
  · cases h
  · rename_i hc
    simp only [not_or, Nat.not_lt, Decidable.not_not] at hc
    obtain ⟨h2, _, hlast⟩ := hc
    split at h
    · rename_i a ha
      split at h
      · rename_i rs hrs
        split at h
        · rename_i hf
          simp only [Option.some.injEq] at h
          subst h
          have h1 := docRules_some _ _ hrs
          have hb : AcOk a ∧ joinC 32 (wElse :: actW a) = (splitC 10 s).headD [] := by
            unfold docHead at ha
            split at ha
            · cases ha
            · rename_i w r hw
              split at ha
              · rename_i ew
                split at ha
                · rename_i b n hn
                  split at ha
                  · rename_i en
                    simp only [Option.some.injEq] at ha
                    subst ha
                    have h3 := docAct_some hn
                    refine ⟨h3.2.2.2, ?_⟩
                    rw [← h3.1, en, List.take_length, ← ew, ← hw, join_split]
                  · cases ha
                · cases ha
              · cases ha
          refine ⟨?_, hf, ⟨h1.2, hb.1⟩⟩
          rw [textP_lines]
          unfold linesP
          simp only
          rw [h1.1, hb.2]
          obtain ⟨ys, hys⟩ := List.getLast?_eq_some_iff.1 hlast
          cases ys with
          | nil => rw [hys] at h2; simp at h2
          | cons y t =>
            rw [hys]
            simp only [List.cons_append, List.headD_cons, List.tail_cons, List.dropLast_concat]
            rw [← lines_join 10 (y :: t), List.cons_append, ← List.cons_append, ← hys, join_split]
        · cases h
      · cases h
    · cases h
/-- The code's answer is the document's. -/
theorem parse_same (s : W8) (hp : PlOk (readP s)) : (if polF (readP s) = 0 ∧ textP (readP s) = s then some (readP s) else none) = docP s := by
  split
  · rename_i h
    have := docP_text (pol_ok h.1 hp) h.1
    rw [h.2] at this
    exact this.symm
  · rename_i h
    cases hd : docP s with
    | none => rfl
    | some p =>
      obtain ⟨h1, h2, h3⟩ := docP_some hd
      have hr := readP_text (pol_ok h2 h3)
      rw [h1] at hr
      exact absurd ⟨by rw [hr]; exact h2, by rw [hr]; exact h1⟩ h
end Go.Proofs.YtkogafponpjdnaaGreatDoor

/- Policies as values and cells. -/
namespace Go.Proofs.YtkogafponpjdnaaGreatDoor
open Go.RowKit

theorem box_below (w : World) (o : Obj) : Below w.heap.size w (w.alloc o) := (Below.refl _ _).alloc (Nat.le_refl _) _
theorem below_next {w w1 w2 : World} (a : Below w.heap.size w w1) (b : Below w1.heap.size w1 w2) : Below w.heap.size w w2 := a.trans (b.mono a.size)
theorem errV_zero : errV 0 = .nilIface := rfl
theorem errV_pos {f : Nat} (h : f ≠ 0) : errV f = .iface 75 (.int .i64 f) := if_neg h

def actV (a : ACT) : Value := .agg #[.int .i64 a.kind, .int .i64 a.errno]
def condV (c : CD) : Value := .agg #[.int .i64 c.arg, .int .i64 c.op, .int .u64 c.v, .int .u64 c.m, .string c.glob, .int .u32 c.net.ip, .int .i64 c.net.bits, .int .i64 c.net.lo, .int .i64 c.net.hi]
def ruleV (r : RL) (oa : Option Addr) (cap : Nat) : Value := .agg #[.int .i64 r.nr, .slice oa r.conds.length cap, .int .i64 r.act.kind, .int .i64 r.act.errno]
def polV (p : POL) (oa : Option Addr) (cap : Nat) : Value := .agg #[.slice oa p.rules.length cap, .int .i64 p.els.kind, .int .i64 p.els.errno]

/-- A cond's cells lie from o on. -/
structure CondAt (W : World) (b o : Nat) (c : CD) : Prop where
  k0 : W.cell? ⟨b, o, none⟩ = some (.int .i64 c.arg)
  k1 : W.cell? ⟨b, o + 1, none⟩ = some (.int .i64 c.op)
  k2 : W.cell? ⟨b, o + 2, none⟩ = some (.int .u64 c.v)
  k3 : W.cell? ⟨b, o + 3, none⟩ = some (.int .u64 c.m)
  k4 : W.cell? ⟨b, o + 4, none⟩ = some (.string c.glob)
  k5 : W.cell? ⟨b, o + 5, none⟩ = some (.int .u32 c.net.ip)
  k6 : W.cell? ⟨b, o + 6, none⟩ = some (.int .i64 c.net.bits)
  k7 : W.cell? ⟨b, o + 7, none⟩ = some (.int .i64 c.net.lo)
  k8 : W.cell? ⟨b, o + 8, none⟩ = some (.int .i64 c.net.hi)
  ok : CdOk c
theorem CondAt.on {W V : World} {b o : Nat} {x : CD} (h : CondAt W b o x) (hc : ∀ j, V.cell? ⟨b, j, none⟩ = W.cell? ⟨b, j, none⟩) : CondAt V b o x :=
  ⟨(hc _).trans h.k0, (hc _).trans h.k1, (hc _).trans h.k2, (hc _).trans h.k3, (hc _).trans h.k4, (hc _).trans h.k5, (hc _).trans h.k6, (hc _).trans h.k7, (hc _).trans h.k8, h.ok⟩
/-- A slice of conds in a world. -/
structure IsConds (oa : Option Addr) (cs : List CD) (W : World) : Prop where
  lie : 0 < cs.length → ∃ b off, oa = some ⟨b, off, none⟩ ∧ b < W.heap.size ∧ ∀ i c, cs[i]? = some c → CondAt W b (off + i * 9) c
theorem IsConds.on {oa : Option Addr} {cs : List CD} {W V : World} (h : IsConds oa cs W) (hb : Below W.heap.size W V) : IsConds oa cs V :=
  ⟨fun h0 => by
    obtain ⟨b, off, h1, h2, h3⟩ := h.lie h0
    exact ⟨b, off, h1, Nat.lt_of_lt_of_le h2 hb.size, fun i c hi => (h3 i c hi).on fun j => (bcell hb).1 b j h2⟩⟩
theorem IsConds.nil (oa : Option Addr) (W : World) : IsConds oa [] W := ⟨fun h => absurd h (Nat.lt_irrefl 0)⟩
/-- A rule's cells lie from o on. -/
structure RuleAt (W : World) (b o : Nat) (r : RL) (oa : Option Addr) (cap : Nat) : Prop where
  k0 : W.cell? ⟨b, o, none⟩ = some (.int .i64 r.nr)
  k1 : W.cell? ⟨b, o + 1, none⟩ = some (.slice oa r.conds.length cap)
  k2 : W.cell? ⟨b, o + 2, none⟩ = some (.int .i64 r.act.kind)
  k3 : W.cell? ⟨b, o + 3, none⟩ = some (.int .i64 r.act.errno)
  conds : IsConds oa r.conds W
  le : r.conds.length ≤ cap
  cap : cap ≤ maxLen
  ok : RlOk r
theorem RuleAt.on {W V : World} {b o : Nat} {r : RL} {oa : Option Addr} {cap : Nat} (h : RuleAt W b o r oa cap) (hw : b < W.heap.size) (hb : Below W.heap.size W V) : RuleAt V b o r oa cap :=
  have hc := fun j => (bcell hb).1 b j hw
  ⟨(hc _).trans h.k0, (hc _).trans h.k1, (hc _).trans h.k2, (hc _).trans h.k3, h.conds.on hb, h.le, h.cap, h.ok⟩
/-- A slice of rules in a world. -/
structure IsRules (oa : Option Addr) (rs : List RL) (W : World) : Prop where
  lie : 0 < rs.length → ∃ b off, oa = some ⟨b, off, none⟩ ∧ b < W.heap.size ∧ ∀ i r, rs[i]? = some r → ∃ ca ccap, RuleAt W b (off + i * 4) r ca ccap
theorem IsRules.on {oa : Option Addr} {rs : List RL} {W V : World} (h : IsRules oa rs W) (hb : Below W.heap.size W V) : IsRules oa rs V :=
  ⟨fun h0 => by
    obtain ⟨b, off, h1, h2, h3⟩ := h.lie h0
    refine ⟨b, off, h1, Nat.lt_of_lt_of_le h2 hb.size, fun i r hi => ?_⟩
    obtain ⟨ca, cc, h4⟩ := h3 i r hi
    exact ⟨ca, cc, h4.on h2 hb⟩⟩
theorem IsRules.nil (oa : Option Addr) (W : World) : IsRules oa [] W := ⟨fun h => absurd h (Nat.lt_irrefl 0)⟩
/-- A policy in a world, by its slice of rules. -/
structure IsPol (oa : Option Addr) (cap : Nat) (p : POL) (W : World) : Prop where
  rules : IsRules oa p.rules W
  le : p.rules.length ≤ cap
  cap : cap ≤ maxLen
  ok : PlOk p
theorem IsPol.on {oa : Option Addr} {cap : Nat} {p : POL} {W V : World} (h : IsPol oa cap p W) (hb : Below W.heap.size W V) : IsPol oa cap p V := ⟨h.rules.on hb, h.le, h.cap, h.ok⟩
end Go.Proofs.YtkogafponpjdnaaGreatDoor

/- strconv.FormatUint at base 10, by the contracts that FormatInt's stands on. -/
namespace Go.Proofs.YtkogafponpjdnaaGreatDoor
open Go.RowKit Go.Sort

theorem fin_zero (w : World) (o : Obj) (dk : Array UInt8) (k : Nat) : Below w.heap.size w ((putRow (fun (b : UInt8) => Value.int .u8 (b.toNat : Int)) (w.alloc o) w.heap.size 0 dk).drewN k) := by
  rw [alloc_eq_grow]
  obtain ⟨os', _, e⟩ := putRow_grow_new (fun (b : UInt8) => Value.int .u8 (b.toNat : Int)) w #[o] w.heap.size 0 dk (Nat.le_refl _)
  rw [e]
  exact ⟨rfl, rfl, rfl, by simp [Sort.grow], fun k hk => by simp [Sort.grow, Array.getElem?_append_left hk]⟩

set_option maxHeartbeats 2000000 in
theorem ifmt_any (u : Nat) (hu64 : u < 18446744073709551616) (w : World) (ht : Tab w) : Calls Tryz.prog 123 #[.int .u64 u, .int .i64 10] w fun e w' => e = .returned (.string ⟨(Lib.decDigits u).toArray⟩) ∧ Below w.heap.size w w' := by
  by_cases hs : u < 100
  · have hc : IntKind.i64.wrap (u : Int) = u := by rw [IntKind.wrap_i64]; omega
    have h1 : (u : Int) < 100 := by omega
    go_enter Tryz.func123, Tryz.ntmps123
    go_wp2_with (go_at_call 119; refine (Tryz.internal_strconv_small u hs _).mono ?_; rintro e w' ⟨rfl, rfl⟩)
    go_ret
    exact ⟨rfl, Below.refl _ _⟩
  · have hu1 : 1 ≤ u := by omega
    have h1 : ¬ (u : Int) < 100 := by omega
    have hnd20 : Lib.nDigits u ≤ 20 := by have := Lib.numDigits_eq u hu1 hu64; split at this <;> omega
    have hb3 : Lib.nDigits u ≤ 24 := by omega
    have hsl1 : ∀ W, (Instr.sliceAt 178 (.pointer (some ⟨w.heap.size, 0, none⟩)) none (some (.int .i64 (Lib.nDigits u : Int))) none).run Tryz.prog W = .ok (.slice (some ⟨w.heap.size, 0, none⟩) (Lib.nDigits u) 24) W := fun W => by
      have hal : Tryz.prog.arrayLen 178 = 24 := by kernel_rfl
      rw [run_sliceAt_array_h W 178 ⟨w.heap.size, 0, none⟩ (by kernel_rfl) .i64 (Lib.nDigits u : Int) (by omega) (by rw [hal]; omega)]
      go_simp
    have hH0 := Lib.holds_zero0 w 178 (Lib.nDigits u) (by omega)
    have hfmt := Tryz.internal_strconv_formatBase10 w.heap.size 0 24 u (Array.replicate (Lib.nDigits u) 0) (w.alloc (.cells Lib.zeros24 178)) hH0 (by rw [Array.size_replicate]; exact Lib.lt_pow_nDigits u) hu64 (by rw [Array.size_replicate]; omega)
    rw [Array.size_replicate] at hfmt
    have HH0 := Lib.hid hH0
    clear hH0
    go_enter Tryz.func123, Tryz.ntmps123
    go_wp2_with (first
      | (go_at_call 120; refine (Tryz.internal_strconv_numDigits u hu1 hu64 _ (Lib.tabIs_alloc ht _)).mono ?_; rintro e w' ⟨rfl, rfl⟩))
    go_at_call 121
    refine hfmt.mono ?_
    rintro e w' ⟨rfl, k, v', dk, rfl, hF⟩
    have hcv : (convert 80 9 (.slice (some ⟨w.heap.size, 0, none⟩) (Lib.nDigits u) 24)).run Tryz.prog ((putRow (fun (b : UInt8) => Value.int .u8 (b.toNat : Int)) (w.alloc (.cells Lib.zeros24 178)) w.heap.size 0 dk).drewN k) = .ok (.string ⟨(Lib.decDigits u).toArray⟩) ((putRow (fun (b : UInt8) => Value.int .u8 (b.toNat : Int)) (w.alloc (.cells Lib.zeros24 178)) w.heap.size 0 dk).drewN k) := by
      have h := run_convert_bytes_back (P := Tryz.prog) ((putRow (fun (b : UInt8) => Value.int .u8 (b.toNat : Int)) (w.alloc (.cells Lib.zeros24 178)) w.heap.size 0 dk).drewN k) 80 9 5 ⟨w.heap.size, 0, none⟩ 24 (Lib.decDigits u) Tryz.underlying80 Tryz.underlying5 Tryz.underlying9 (fun j hj => by
        rw [Lib.row_is_numeral hF j hj, Lib.add_plain, World.cell?_drewN]
        exact cell?_putRow (fun (b : UInt8) => Value.int .u8 (b.toNat : Int)) _ w.heap.size 0 _ dk HH0.out (by rw [hF.size, Array.size_replicate]) j (by rw [hF.size]; rw [Lib.decDigits_length] at hj; exact hj))
      rw [Lib.decDigits_length] at h
      exact h
    go_wp2
    go_ret
    exact ⟨rfl, fin_zero _ _ _ _⟩
theorem fmt_any (u : Nat) (hu64 : u < 18446744073709551616) (w : World) (ht : Tab w) : Calls Tryz.prog 96 #[.int .u64 u, .int .i64 10] w fun e w' => e = .returned (.string ⟨(Lib.decDigits u).toArray⟩) ∧ Below w.heap.size w w' := by
  have H := ifmt_any u hu64 w ht
  obtain ⟨d, hd⟩ : ∃ d : ByteArray, d = ⟨(Lib.decDigits u).toArray⟩ := ⟨_, rfl⟩
  rw [← hd] at H ⊢
  clear hd
  go_enter Tryz.func96, Tryz.ntmps96
  go_wp2_with (go_at_call 123; refine H.mono ?_; rintro e w' ⟨rfl, hb⟩)
  go_ret
  exact ⟨rfl, hb⟩
theorem numText_any (u : Nat) (hu64 : u < 18446744073709551616) (w : World) (ht : Tab w) : Calls Tryz.prog 82 #[.int .u64 u] w fun e w' => e = .returned (.string ⟨(Lib.decDigits u).toArray⟩) ∧ Below w.heap.size w w' := by
  have H := fmt_any u hu64 w ht
  obtain ⟨d, hd⟩ : ∃ d : ByteArray, d = ⟨(Lib.decDigits u).toArray⟩ := ⟨_, rfl⟩
  rw [← hd] at H ⊢
  clear hd
  go_enter Tryz.func82, Tryz.ntmps82
  go_wp2_with (go_at_call 96; refine H.mono ?_; rintro e w' ⟨rfl, hb⟩)
  go_ret
  exact ⟨rfl, hb⟩
end Go.Proofs.YtkogafponpjdnaaGreatDoor

/- The walks of glob.pass and glob.step. -/
namespace Go.Proofs.YtkogafponpjdnaaGreatDoor.Gl
open Go.RowKit
attribute [local go_sem] LA_set LA_get LA_size LA_at

def likeAt (ps : List Part) (i : Nat) : Nat → Bool := (ps.getD i (fun _ => false, false)).1
def manyAt (ps : List Part) (i : Nat) : Bool := (ps.getD i (fun _ => false, false)).2

/-- The parts lie in a block, one behind the other. -/
def PartsIn (w : World) (b : Nat) (ps : List Part) : Prop := b < w.heap.size ∧ (∀ i, i < ps.length → w.cell? ⟨b, i * 257 + 256, none⟩ = some (.bool (manyAt ps i))) ∧ ∀ i c, i < ps.length → c < 256 → w.cell? ⟨b, i * 257 + c, none⟩ = some (.bool (likeAt ps i c))

theorem PartsIn.later {w w' : World} {b : Nat} {ps : List Part} (h : PartsIn w b ps) (hb : Below w.heap.size w w') : PartsIn w' b ps :=
  ⟨Nat.lt_of_lt_of_le h.1 hb.size, fun i hi => by rw [hb.cell (p := ⟨b, _, none⟩) h.1]; exact h.2.1 i hi, fun i c hi hc => by rw [hb.cell (p := ⟨b, _, none⟩) h.1]; exact h.2.2 i c hi hc⟩

theorem flat_get : ∀ (ps : List Part) (i j : Nat), i < ps.length → j < 257 → (flat ps)[i * 257 + j]? = some (.bool (PF (likeAt ps i) (manyAt ps i) j))
  | [], i, j, h, _ => by simp at h
  | p :: ps, 0, j, _, hj => by
    have e : flat (p :: ps) = (LA 257 (PF p.1 p.2)).toList ++ flat ps := by simp [flat]
    rw [e, Nat.zero_mul, Nat.zero_add, List.getElem?_append_left (by simp [LA_size]; exact hj)]
    simpa [likeAt, manyAt] using LA_get 257 (PF p.1 p.2) j hj
  | p :: ps, i + 1, j, h, hj => by
    have e : flat (p :: ps) = (LA 257 (PF p.1 p.2)).toList ++ flat ps := by simp [flat]
    rw [e, List.getElem?_append_right (by simp [LA_size]; omega)]
    have e2 : (i + 1) * 257 + j - (LA 257 (PF p.1 p.2)).toList.length = i * 257 + j := by simp [LA_size]; omega
    rw [e2, flat_get ps i j (by simpa using h) hj]
    rfl

theorem partsIn_of_owns {w : World} {base : Nat} {sv : Value} {ps : List Part} (h : w.ownsRow base 149 257 sv ps.length (flat ps)) (hne : ps ≠ []) : ∃ b cap, sv = .slice (some ⟨b, 0, none⟩) ps.length cap ∧ base ≤ b ∧ PartsIn w b ps := by
  have hn : ps.length ≠ 0 := by simpa using hne
  rcases h.2 with ⟨_, h0⟩ | ⟨g, cap, cur, rfl, hb, hg, _⟩
  · exact absurd h0 hn
  · have hc : ∀ j u, (flat ps)[j]? = some u → w.cell? ⟨g, j, none⟩ = some u := fun j u hu => by
      have := h.cells (g := g) rfl j u hu
      have hadd : (⟨g, 0, none⟩ : Addr).add j = ⟨g, j, none⟩ := by unfold Addr.add; split <;> simp_all
      rwa [hadd] at this
    refine ⟨g, cap, rfl, hb, (Array.getElem?_eq_some_iff.1 hg).1, fun i hi => ?_, fun i c hi hc' => ?_⟩
    · have := hc _ _ (flat_get ps i 256 hi (by omega))
      simpa [PF] using this
    · have := hc _ _ (flat_get ps i c hi (by omega))
      rw [this, PF, if_neg (by omega)]

/-- The places that k parts with no bytes add. -/
def passTo (ps : List Part) (f : Nat → Bool) : Nat → Nat → Bool
  | 0 => f
  | k + 1 => if (passTo ps f k k && manyAt ps k) = true then upd (passTo ps f k) (k + 1) true else passTo ps f k
theorem passTo_yes {ps : List Part} {f : Nat → Bool} {k : Nat} (h1 : passTo ps f k k = true) (h2 : manyAt ps k = true) : passTo ps f (k + 1) = upd (passTo ps f k) (k + 1) true := by rw [passTo, if_pos (by rw [h1, h2]; rfl)]
theorem passTo_no {ps : List Part} {f : Nat → Bool} {k : Nat} (h : (passTo ps f k k && manyAt ps k) = false) : passTo ps f (k + 1) = passTo ps f k := by rw [passTo, if_neg (by rw [h]; simp)]

set_option maxRecDepth 10000 in
set_option maxHeartbeats 400000 in
theorem pass_any (ps : List Part) (b cap : Nat) (f : Nat → Bool) (w : World) (hn : ps.length ≤ 24) (hp : PartsIn w b ps) :
    Calls Tryz.prog 66 #[.slice (some ⟨b, 0, none⟩) ps.length cap, .agg (LA 25 f)] w fun e w' => e = .returned (.agg (LA 25 (passTo ps f ps.length))) ∧ Below w.heap.size w w' := by
  obtain ⟨hb, hm, _⟩ := hp
  have Hm := hide hm
  clear hm
  have zl := zv_places
  go_enter Tryz.func66, Tryz.ntmps66
  go_wp2_with fail
  go_loopw [8] (fun i w' => ∃ k : Nat, k ≤ ps.length ∧ i = .int .i64 k ∧ w' = (w.alloc (.cells (LA 25 (passTo ps f k)) 130)).alloc (.cells (LA 25 fun _ => false) 130)) (fun i _ => ps.length - (intOf i).toNat)
  case atStart => exact ⟨0, by omega, rfl, rfl⟩
  case round =>
    obtain ⟨k, hk, rfl, rfl⟩ := hrel
    by_cases hlt : k < ps.length
    · have hc := Hm.out k hlt
      have h25 : k < 25 := by omega
      have hg1 := LA_get 25 (passTo ps f k) (k + 1) (by omega)
      cases h1 : passTo ps f k k
      · have HS := hide (passTo_no (ps := ps) (f := f) (k := k) (by rw [h1]; rfl))
        go_wp2_with fail
        go_roundw
        case rel => exact ⟨k + 1, by omega, by go_num, by rw [HS.out]⟩
        case measure => simp [intOf]; omega
      · cases h2 : manyAt ps k
        · have HS := hide (passTo_no (ps := ps) (f := f) (k := k) (by rw [h1, h2]; rfl))
          rw [h2] at hc
          go_wp2_with fail
          go_roundw
          case rel => exact ⟨k + 1, by omega, by go_num, by rw [HS.out]⟩
          case measure => simp [intOf]; omega
        · have HS := hide (passTo_yes h1 h2)
          rw [h2] at hc
          go_wp2_with fail
          go_roundw
          case rel => exact ⟨k + 1, by omega, by go_num, by rw [HS.out]⟩
          case measure => simp [intOf]; omega
    · have e : k = ps.length := by omega
      have He := hide e
      clear e
      go_wp2_with (first
        | (refine wpList_load_LA 130 25 25 4 rfl _ rfl w.heap.size ?_ Tryz.underlying130 size_places (passTo ps f k) 130 ?_ ?_; (· rfl); (· with_reducible exact heap_alloc2_old _ _ _))
        | (refine wpList_store_LA 130 25 rfl _ _ rfl (w.heap.size + 1) ?_ (passTo ps f k) ?_ size_places (fun _ => false) 130 ?_ ?_; (· rfl); (· rfl); (· with_reducible exact heap_alloc2_new _ _ _))
        | (refine bodyPost_ret (results_LA 25 25 4 rfl _ _ (w.heap.size + 1) _ 130 rfl (heap_setRow_same _ (heap_alloc2_new _ _ _)) Tryz.underlying130 size_places) rfl ⟨?_, ?_⟩; (· rw [He.out]); (· exact below_setRow (((Below.refl _ _).alloc (Nat.le_refl _) _).alloc (by simp) _) (by omega) _)))

/-- The places behind one more byte, so far as the loop has come. -/
def stepTo (ps : List Part) (f : Nat → Bool) (b : Nat) : Nat → Nat → Bool
  | 0 => fun _ => false
  | k + 1 => if (f k && likeAt ps k b) = true then (if manyAt ps k = true then upd (stepTo ps f b k) k true else upd (stepTo ps f b k) (k + 1) true) else stepTo ps f b k
theorem stepTo_no {ps : List Part} {f : Nat → Bool} {b k : Nat} (h : (f k && likeAt ps k b) = false) : stepTo ps f b (k + 1) = stepTo ps f b k := by rw [stepTo, if_neg (by rw [h]; simp)]
theorem stepTo_many {ps : List Part} {f : Nat → Bool} {b k : Nat} (h1 : f k = true) (h2 : likeAt ps k b = true) (h3 : manyAt ps k = true) : stepTo ps f b (k + 1) = upd (stepTo ps f b k) k true := by rw [stepTo, if_pos (by rw [h1, h2]; rfl), if_pos h3]
theorem stepTo_one {ps : List Part} {f : Nat → Bool} {b k : Nat} (h1 : f k = true) (h2 : likeAt ps k b = true) (h3 : manyAt ps k = false) : stepTo ps f b (k + 1) = upd (stepTo ps f b k) (k + 1) true := by rw [stepTo, if_pos (by rw [h1, h2]; rfl), if_neg (by rw [h3]; simp)]

/-- The world of step: the places, the result's block, the places that come. -/
def SW (w : World) (f g : Nat → Bool) : World := ((w.alloc (.cells (LA 25 f) 130)).alloc (.cells (LA 25 fun _ => false) 130)).alloc (.cells (LA 25 g) 130)
theorem SW_heap1 (w : World) (f g : Nat → Bool) : (SW w f g).heap[w.heap.size + 1]? = some (.cells (LA 25 fun _ => false) 130 (0, 0)) := by
  unfold SW
  have h := (Below.heap_alloc ((w.alloc (.cells (LA 25 f) 130)).alloc (.cells (LA 25 fun _ => false) 130)) (.cells (LA 25 g) 130) (w.heap.size + 1) (by simp))
  exact h.trans (heap_alloc2_new _ _ _)
theorem SW_heap2 (w : World) (f g : Nat → Bool) : (SW w f g).heap[w.heap.size + 1 + 1]? = some (.cells (LA 25 g) 130 (0, 0)) := by
  unfold SW
  have := heap_alloc_new ((w.alloc (.cells (LA 25 f) 130)).alloc (.cells (LA 25 fun _ => false) 130)) (.cells (LA 25 g) 130)
  simpa using this
theorem SW_below (w : World) (f g : Nat → Bool) : Below w.heap.size w (SW w f g) := (((Below.refl _ _).alloc (Nat.le_refl _) _).alloc (by simp) _).alloc (by simp; omega) _

theorem SW_heap0 (w : World) (f g : Nat → Bool) : (SW w f g).heap[w.heap.size]? = some (.cells (LA 25 f) 130 (0, 0)) := by
  unfold SW
  have h := (Below.heap_alloc ((w.alloc (.cells (LA 25 f) 130)).alloc (.cells (LA 25 fun _ => false) 130)) (.cells (LA 25 g) 130) w.heap.size (by simp; omega))
  exact h.trans (heap_alloc2_old _ _ _)
theorem SW_old (w : World) (f g : Nat → Bool) (b i : Nat) (h : b < w.heap.size) : (SW w f g).cell? ⟨b, i, none⟩ = w.cell? ⟨b, i, none⟩ := (SW_below w f g).cell (p := ⟨b, i, none⟩) h
theorem SW_at (w : World) (f g : Nat → Bool) (i : Nat) (h : i < 25) : (SW w f g).cell? ⟨w.heap.size, i, none⟩ = some (.bool (f i)) := by
  rw [cell_of_row _ _ i _ _ _ (SW_heap0 w f g), LA_get 25 f i h]
theorem SW_to (w : World) (f g : Nat → Bool) (i : Nat) (h : i < 25) : (SW w f g).cell? ⟨w.heap.size + 1 + 1, i, none⟩ = some (.bool (g i)) := by
  rw [cell_of_row _ _ i _ _ _ (SW_heap2 w f g), LA_get 25 g i h]
theorem SW_frozen (w : World) (f g : Nat → Bool) (i : Nat) : (SW w f g).frozen? ⟨w.heap.size + 1 + 1, i, none⟩ = false := frozen_of_row _ _ i _ _ (SW_heap2 w f g)
theorem SW_set (w : World) (f g : Nat → Bool) (i : Nat) (b : Bool) : (SW w f g).setCell ⟨w.heap.size + 1 + 1, i, none⟩ (.bool b) = SW w f (upd g i b) := by
  rw [setCell_eq_setRow _ _ i _ _ _ _ (SW_heap2 w f g), LA_set]
  have h := World.setRow_alloc_new ((w.alloc (.cells (LA 25 f) 130)).alloc (.cells (LA 25 fun _ => false) 130)) (LA 25 g) (LA 25 (upd g i b)) 130
  have e : ((w.alloc (.cells (LA 25 f) 130)).alloc (.cells (LA 25 fun _ => false) 130)).heap.size = w.heap.size + 1 + 1 := by simp
  rw [e] at h
  exact h
attribute [local go_sem] SW_old SW_at SW_to SW_frozen SW_set

set_option maxRecDepth 10000 in
set_option maxHeartbeats 400000 in
theorem step_any (ps : List Part) (b cap c : Nat) (f : Nat → Bool) (w : World) (hn : ps.length ≤ 24) (hc256 : c < 256) (hp : PartsIn w b ps) :
    Calls Tryz.prog 67 #[.slice (some ⟨b, 0, none⟩) ps.length cap, .agg (LA 25 f), .int .u8 c] w fun e w' => e = .returned (.agg (LA 25 (stepTo ps f c ps.length))) ∧ Below w.heap.size w w' := by
  obtain ⟨hb, hm, hl⟩ := hp
  have Hm := hide hm
  have Hl := hide hl
  clear hm hl
  have zl := zv_places
  go_enter Tryz.func67, Tryz.ntmps67
  go_wp2_with fail
  go_loopw [11] (fun i w' => ∃ k : Nat, k ≤ ps.length ∧ i = .int .i64 k ∧ w' = SW w f (stepTo ps f c k)) (fun i _ => ps.length - (intOf i).toNat)
  case atStart => exact ⟨0, by omega, rfl, rfl⟩
  case round =>
    obtain ⟨k, hk, rfl, rfl⟩ := hrel
    by_cases hlt : k < ps.length
    · have hc := Hm.out k hlt
      have hlk := Hl.out k c hlt hc256
      have h25 : k < 25 := by omega
      have ht0 := SW_to w f (stepTo ps f c k) k h25
      have ht1 := SW_to w f (stepTo ps f c k) (k + 1) (by omega)
      cases h1 : f k
      · have HS := hide (stepTo_no (ps := ps) (f := f) (b := c) (k := k) (by rw [h1]; rfl))
        go_wp2_with fail
        go_roundw
        case rel => exact ⟨k + 1, by omega, by go_num, by rw [HS.out]⟩
        case measure => simp [intOf]; omega
      · cases h2 : likeAt ps k c
        · have HS := hide (stepTo_no (ps := ps) (f := f) (b := c) (k := k) (by rw [h1, h2]; rfl))
          rw [h2] at hlk
          go_wp2_with fail
          go_roundw
          case rel => exact ⟨k + 1, by omega, by go_num, by rw [HS.out]⟩
          case measure => simp [intOf]; omega
        · rw [h2] at hlk
          cases h3 : manyAt ps k
          · have HS := hide (stepTo_one h1 h2 h3)
            rw [h3] at hc
            go_wp2_with fail
            go_roundw
            case rel => exact ⟨k + 1, by omega, by go_num, by rw [HS.out]⟩
            case measure => simp [intOf]; omega
          · have HS := hide (stepTo_many h1 h2 h3)
            rw [h3] at hc
            go_wp2_with fail
            go_roundw
            case rel => exact ⟨k + 1, by omega, by go_num, by rw [HS.out]⟩
            case measure => simp [intOf]; omega
    · have e : k = ps.length := by omega
      have He := hide e
      clear e
      go_wp2_with (first
        | (refine wpList_load_LA 130 25 25 4 rfl _ rfl (w.heap.size + 1 + 1) ?_ Tryz.underlying130 size_places (stepTo ps f c k) 130 ?_ ?_; (· rfl); (· with_reducible exact SW_heap2 _ _ _))
        | (refine wpList_store_LA 130 25 rfl _ _ rfl (w.heap.size + 1) ?_ (stepTo ps f c k) ?_ size_places (fun _ => false) 130 ?_ ?_; (· rfl); (· rfl); (· with_reducible exact SW_heap1 _ _ _))
        | (refine bodyPost_ret (results_LA 25 25 4 rfl _ _ (w.heap.size + 1) _ 130 rfl (heap_setRow_same _ (SW_heap1 _ _ _)) Tryz.underlying130 size_places) rfl ⟨?_, ?_⟩; (· rw [He.out]); (· exact below_setRow (SW_below _ _ _) (by omega) _)))
end Go.Proofs.YtkogafponpjdnaaGreatDoor.Gl

/- The walks of glob.Match and glob.Check. -/
namespace Go.Proofs.YtkogafponpjdnaaGreatDoor.Gl
open Go.RowKit
attribute [local go_sem] LA_set LA_get LA_size LA_at

theorem built_places : Tryz.prog.built 130 [(0, .bool true)] = some (LA 25 fun i => i == 0) := by rw [LA_eq]; kernel_rfl

/-- The places that a text leads to. -/
def runTo (ps : List Part) (s : ByteArray) : Nat → Nat → Bool
  | 0 => passTo ps (fun i => i == 0) ps.length
  | k + 1 => passTo ps (stepTo ps (runTo ps s k) (byteAt s k) ps.length) ps.length
def matchR (p s : ByteArray) : Bool := match parseR p with
  | .inl _ => false
  | .inr ps => runTo ps s s.size ps.length

/-- The world of Match: the parts, the block of the places. -/
def MW (w : World) (b g : Nat) (ps : List Part) (f : Nat → Bool) (W : World) : Prop := Below w.heap.size w W ∧ PartsIn W b ps ∧ w.heap.size ≤ g ∧ b < g ∧ W.heap[g]? = some (.cells (LA 25 f) 130 (0, 0))

/-- A call of a Go function, by its contract, as one operation. -/
theorem wp_callOf {P : Program} {o : Oper} {a : Act} {w : World} {K : Act → World → Prop} {Q : Exit → Act → World → Prop} {R : Ending → World → Prop} (f : FuncId) (args : Array Value)
    (hrun : (execOp a.eval o).run P w = .ok (.enter f args) w) (hc : Calls P f args w R) (hk : ∀ e w', R e w' → ∃ v, e = .returned v ∧ K (a.put o.dst v) w') : o.wp P a w K Q := by
  unfold Oper.wp
  rw [hrun, Oper.upon_enter]
  refine hc.mono fun e w' hR => ?_
  obtain ⟨v, rfl, h⟩ := hk e w' hR
  exact h

/-- In a region that draws: one operation alone may come up next, and it bears no guard. -/
theorem wpAny_only {P : Program} {md : Region.Mode} {ops : Array Oper} {Q : Exit → Act → World → Prop} {fuel : Nat} {listed : Array Bool} {a : Act} {w : World} {i : Nat} {o : Oper} (hr : Region.ready md ops listed = [i]) (ho : ops.toList[i]? = some o) (hg : o.guard = none)
    (h : ∀ K : Act → World → Prop, (∀ a w, wpAny P md ops Q fuel (listed.setIfInBounds i true) a w → K a w) → Oper.wp P o a w K Q) : wpAny P md ops Q (fuel + 1) listed a w := by
  refine wpAny_ready hr (by simp) ?_
  refine AllReady.cons (o := o) (by simpa using ho) (fun K hK => ?_) AllReady.nil
  have hw : Region.wanted o (yielded ops a.tmps) = true := by simp [Region.wanted, hg]
  rw [if_pos hw]
  exact h K hK

/-- 'wpAny_take', the operation read off the region's list. -/
theorem wpAny_takeOf {P : Program} {md : Region.Mode} {ops : Array Oper} {Q : Exit → Act → World → Prop} {fuel : Nat} {listed : Array Bool} {a : Act} {w : World} (i : Nat) {o : Oper} (d : Option Tmp) (v : Value) (ho : ops.toList[i]? = some o) (hd : o.dst = d)
    (hs : Region.noSelect ops = true) (hf : Region.free md ops listed i = true) (hr : (Region.ready md ops listed).contains i = true)
    (hQ : ∀ c a w, Q (.panic c) (a.put d v) w → Q (.panic c) a w) (hy : Yields P ops o v a)
    (h : wpAny P md ops Q fuel (listed.setIfInBounds i true) (a.put d v) w) : wpAny P md ops Q (fuel + 1) listed a w := by
  subst hd
  exact wpAny_take (i := i) (oi := o) (by simpa using ho) hs hf hr hQ hy h

theorem MW.later {w W V : World} {b g : Nat} {ps : List Part} {f : Nat → Bool} (h : MW w b g ps f W) (hb : Below W.heap.size W V) : MW w b g ps f V := by
  obtain ⟨h1, h2, h3, h4, h5⟩ := h
  have hlt : g < W.heap.size := (Array.getElem?_eq_some_iff.1 h5).1
  exact ⟨h1.trans (hb.mono h1.size), h2.later hb, h3, h4, (hb.block g hlt).trans h5⟩
theorem MW.drew {w W : World} {b g : Nat} {ps : List Part} {f : Nat → Bool} (h : MW w b g ps f W) : MW w b g ps f W.drew := h.later ((Below.refl _ _).drew)
theorem MW.set {w W : World} {b g : Nat} {ps : List Part} {f f' : Nat → Bool} (h : MW w b g ps f W) : MW w b g ps f' (W.setRow g (LA 25 f')) := by
  obtain ⟨h1, ⟨p1, p2, p3⟩, h3, h4, h5⟩ := h
  have hc : ∀ i, (W.setRow g (LA 25 f')).cell? ⟨b, i, none⟩ = W.cell? ⟨b, i, none⟩ := fun i => World.cell?_of_block (setRow_other W g b _ (by omega))
  exact ⟨below_setRow h1 h3 _, ⟨by simpa using p1, fun i hi => by rw [hc]; exact p2 i hi, fun i c hi hcc => by rw [hc]; exact p3 i c hi hcc⟩, h3, h4, heap_setRow_same _ h5⟩

theorem MW_start {w W W1 : World} {b : Nat} {ps : List Part} {f : Nat → Bool} (hW : Below w.heap.size w W) (hp : PartsIn W b ps) (hW1 : Below W.heap.size W W1) :
    MW w b W1.heap.size ps f ((W1.alloc (.cells (LA 25 fun _ => false) 130)).setRow W1.heap.size (LA 25 f)) := by
  have hb : Below W.heap.size W ((W1.alloc (.cells (LA 25 fun _ => false) 130)).setRow W1.heap.size (LA 25 f)) := below_setRow (hW1.alloc hW1.size _) hW1.size _
  exact ⟨hW.trans (hb.mono hW.size), hp.later hb, Nat.le_trans hW.size hW1.size, Nat.lt_of_lt_of_le hp.1 hW1.size, heap_setRow_same _ (heap_alloc_new _ _)⟩

theorem partsR_length : ∀ (k : Nat) (p : ByteArray) (a : Nat) (ps : List Part), partsR k p a = some ps → ps.length ≤ p.size - a
  | 0, _, _, _, h => by simp [partsR] at h
  | k + 1, p, a, ps, h => by
    rw [partsR] at h
    split at h
    · rename_i hlt
      split at h
      · simp at h
      · rename_i f m n hF
        cases hr : partsR k p (a + n) with
        | none => rw [hr] at h; simp at h
        | some r =>
          rw [hr] at h
          simp only [Option.map_some, Option.some.injEq] at h
          subst h
          have := partsR_length k p (a + n) r hr
          have hb := firstR_bound (by rw [size_extract]; omega) hF
          rw [size_extract] at hb
          simp only [List.length_cons]
          omega
    · simp only [Option.some.injEq] at h
      subst h
      simp

theorem partsR_pos {p : ByteArray} {ps : List Part} (h : parseR p = .inr ps) : ps ≠ [] ∧ ps.length ≤ 24 := by
  unfold parseR at h
  split at h
  · simp at h
  · split at h
    · simp at h
    · rename_i h24 h0
      cases hq : partsR (p.size + 1) p 0 with
      | none => simp [hq] at h
      | some qs =>
        simp only [hq, Sum.inr.injEq] at h
        subst h
        refine ⟨?_, Nat.le_trans (partsR_length _ _ _ _ hq) (by omega)⟩
        rw [partsR, if_pos (by omega)] at hq
        intro e
        subst e
        split at hq
        · simp at hq
        · cases hr : partsR p.size p (0 + _) with
          | none => rw [hr] at hq; simp at hq
          | some r => rw [hr] at hq; simp at hq

set_option maxRecDepth 10000 in
set_option maxHeartbeats 400000 in
theorem match_any (p s : ByteArray) (hz : p.size ≤ 1000) (hs : s.size ≤ 1000) (w : World) :
    Calls Tryz.prog 46 #[.string p, .string s] w fun e w' => e = .returned (.bool (matchR p s)) ∧ Below w.heap.size w w' := by
  unfold matchR
  cases hP : parseR p with
  | inl n =>
    have HP := hide hP
    clear hP
    go_enter Tryz.func46, Tryz.ntmps46
    go_wp2_with (go_at_call 65; refine (parse_any p hz _).mono ?_; rw [HP.out]; rintro e W ⟨hW, rfl⟩)
    go_ret
    exact ⟨rfl, hW⟩
  | inr ps =>
    have hps := partsR_pos hP
    have HP := hide hP
    clear hP
    obtain ⟨hne, h24⟩ := hps
    have zl := zv_places
    go_enter Tryz.func46, Tryz.ntmps46
    go_wp2_with (first
      | (go_at_call 65; refine (parse_any p hz _).mono ?_; rw [HP.out]; rintro e W ⟨hW, sv, rfl, hown⟩; obtain ⟨b, cap, rfl, hbb, hpi⟩ := partsIn_of_owns hown hne)
      | (refine wpList_build_one rfl 130 _ _ rfl (.bool true) ?_ _ built_places ?_; (· rfl))
      | (go_at_call 66; refine (pass_any ps b cap (fun i => i == 0) _ h24 hpi).mono ?_; rintro e W1 ⟨rfl, hW1⟩)
      | (refine wpList_store_LA 130 25 rfl _ _ rfl W1.heap.size ?_ (passTo ps (fun i => i == 0) ps.length) ?_ size_places (fun _ => false) 130 ?_ ?_; (· rfl); (· rfl); (· with_reducible exact heap_alloc_new _ _)))
    refine wp_forget (MW w b W1.heap.size ps (passTo ps (fun i => i == 0) ps.length)) (MW_start hW hpi hW1) ?_
    generalize W1.heap.size = g
    rintro V0 hV0
    go_loopw [21] (fun i w' => ∃ k : Nat, k ≤ s.size ∧ i = .int .i64 k ∧ MW w b g ps (runTo ps s k) w') (fun i _ => s.size - (intOf i).toNat)
    case atStart => exact ⟨0, by omega, rfl, hV0⟩
    case round =>
      obtain ⟨k, hk, rfl, hMW⟩ := hrel
      clear hV0
      by_cases hlt : k < s.size
      · have ek := byteAt_eq s k hlt
        go_wp2_with fail
        refine wp_region_any (by kernel_rfl) ?_
        change wpAny _ _ _ _ _ _ _ (World.drew _)
        refine wpAny_takeOf 0 (some 24) (.slice (some ⟨b, 0, none⟩) ps.length cap) rfl rfl (by kernel_rfl) (by kernel_rfl) (by kernel_rfl) (fun _ _ _ h => h) (Or.inl ⟨by rfl, ?_⟩) ?_
        · intro wx
          go_simp
        simp only [Act.put, List.setIfInBounds_toArray, List.set_cons_zero, List.set_cons_succ]
        refine wpAny_takeOf 1 (some 25) (.slice (some ⟨b, 0, none⟩) ps.length cap) rfl rfl (by kernel_rfl) (by kernel_rfl) (by kernel_rfl) (fun _ _ _ h => h) (Or.inl ⟨by rfl, ?_⟩) ?_
        · intro wx
          go_simp
        simp only [Act.put, List.setIfInBounds_toArray, List.set_cons_zero, List.set_cons_succ]
        refine wpAny_takeOf 3 (some 27) (.string s) rfl rfl (by kernel_rfl) (by kernel_rfl) (by kernel_rfl) (fun _ _ _ h => h) (Or.inl ⟨by rfl, ?_⟩) ?_
        · intro wx
          go_simp
        simp only [Act.put, List.setIfInBounds_toArray, List.set_cons_zero, List.set_cons_succ]
        refine wpAny_takeOf 4 (some 28) (.int .i64 k) rfl rfl (by kernel_rfl) (by kernel_rfl) (by kernel_rfl) (fun _ _ _ h => h) (Or.inl ⟨by rfl, ?_⟩) ?_
        · intro wx
          go_simp
        simp only [Act.put, List.setIfInBounds_toArray, List.set_cons_zero, List.set_cons_succ]
        refine wpAny_takeOf 5 (some 29) (.int .u8 (byteAt s k)) rfl rfl (by kernel_rfl) (by kernel_rfl) (by kernel_rfl) (fun _ _ _ h => h) (Or.inl ⟨by rfl, ?_⟩) ?_
        · intro wx
          go_simp
        simp only [Act.put, List.setIfInBounds_toArray, List.set_cons_zero, List.set_cons_succ]
        refine wpAny_only (i := 2) (by kernel_rfl) rfl rfl (fun K hK => ?_)
        refine wp_load_row 130 (.tmp 7) rfl g rfl 130 (LA 25 (runTo ps s k)) (0, 0) _ hMW.drew.2.2.2.2 Tryz.underlying130 rfl (by rw [LA_size]; exact size_places) ?_
        refine hK _ _ ?_
        clear hK K
        simp only [Act.put, List.setIfInBounds_toArray, List.set_cons_zero, List.set_cons_succ]
        refine wpAny_only (i := 6) (by kernel_rfl) rfl rfl (fun K hK => ?_)
        refine wp_callOf 67 #[(.slice (some ⟨b, 0, none⟩) ps.length cap), .agg (LA 25 (runTo ps s k)), .int .u8 (byteAt s k)] (by kernel_rfl) (step_any ps b cap (byteAt s k) (runTo ps s k) _ h24 (byteAt_lt s k) hMW.drew.2.1) ?_
        rintro e W2 ⟨rfl, hW2⟩
        refine ⟨_, rfl, hK _ _ ?_⟩
        clear hK K
        simp only [Act.put, List.setIfInBounds_toArray, List.set_cons_zero, List.set_cons_succ]
        refine wpAny_only (i := 7) (by kernel_rfl) rfl rfl (fun K hK => ?_)
        refine wp_callOf 66 #[(.slice (some ⟨b, 0, none⟩) ps.length cap), .agg (LA 25 (stepTo ps (runTo ps s k) (byteAt s k) ps.length))] (by kernel_rfl) (pass_any ps b cap _ _ h24 (hMW.drew.later hW2).2.1) ?_
        rintro e W3 ⟨rfl, hW3⟩
        refine ⟨_, rfl, hK _ _ ?_⟩
        clear hK K
        simp only [Act.put, List.setIfInBounds_toArray, List.set_cons_zero, List.set_cons_succ]
        refine wpAny_only (i := 8) (by kernel_rfl) rfl rfl (fun K hK => ?_)
        refine wp_store_row 130 (.tmp 7) (.tmp 31) rfl g (LA 25 (runTo ps s (k + 1))) rfl rfl 130 (LA 25 (runTo ps s k)) ((hMW.drew.later hW2).later hW3).2.2.2.2 (by rw [LA_size]; exact size_places) (by rw [LA_size, LA_size]) (LA_one _ _) ?_
        refine hK _ _ ?_
        clear hK K
        simp only [Act.put]
        refine wpAny_done (by kernel_rfl) ?_ _
        have hM2 := MW.set (f' := runTo ps s (k + 1)) ((hMW.drew.later hW2).later hW3)
        have HM2 := hide hM2
        clear hM2 hMW hW2 hW3
        go_wp2
        go_roundw
        case rel => exact ⟨k + 1, by omega, by go_num, HM2.out⟩
        case measure => simp [intOf]; omega
      · have e : k = s.size := by omega
        subst e
        have hc := cell_of_row wr g ps.length _ _ _ hMW.2.2.2.2
        rw [LA_get 25 _ _ (by omega)] at hc
        have HM := hide hMW.1
        clear hMW
        go_wp2
        go_ret
        exact ⟨rfl, HM.out⟩

theorem check_any (p : ByteArray) (hz : p.size ≤ 1000) (w : World) :
    Calls Tryz.prog 71 #[.string p] w fun e w' => e = .returned (match parseR p with | .inl n => .iface 75 (.int .i64 n) | .inr _ => .nilIface) ∧ Below w.heap.size w w' := by
  cases hP : parseR p with
  | inl n =>
    have HP := hide hP
    clear hP
    go_enter Tryz.func71, Tryz.ntmps71
    go_wp2_with (go_at_call 65; refine (parse_any p hz _).mono ?_; rw [HP.out]; rintro e W ⟨hW, rfl⟩)
    go_ret
    exact ⟨rfl, hW⟩
  | inr ps =>
    have HP := hide hP
    clear hP
    go_enter Tryz.func71, Tryz.ntmps71
    go_wp2_with (go_at_call 65; refine (parse_any p hz _).mono ?_; rw [HP.out]; rintro e W ⟨hW, sv, rfl, hown⟩)
    go_ret
    exact ⟨rfl, hW⟩
end Go.Proofs.YtkogafponpjdnaaGreatDoor.Gl

/- policy.Check: actions, conds. -/
namespace Go.Proofs.YtkogafponpjdnaaGreatDoor
open Go.RowKit

theorem ret_err {v : Value} {f : Nat} (k : Nat) (hv : v = errV k) (h : f = k) : Ending.returned v = .returned (errV f) := by rw [hv, h]

theorem kindOf_any (op : Int) (w : World) : Calls Tryz.prog 44 #[.int .i64 op] w fun e w' => e = .returned (.int .i64 (kindOp op : Nat)) ∧ w' = w := by
  go_enter Tryz.func44, Tryz.ntmps44
  go_wp2
  all_goals
    go_ret
    refine ⟨ret_int ?_, rfl⟩
    simp_all [kindOp]

theorem checkAction_any (a : ACT) (w : World) : Calls Tryz.prog 27 #[actV a] w fun e w' => e = .returned (errV (actF a)) ∧ Below w.heap.size w w' := by
  obtain ⟨k, e⟩ := a
  unfold actV
  simp only
  go_enter Tryz.func27, Tryz.ntmps27
  go_wp2
  all_goals
    go_ret
    refine ⟨?_, box_below _ _⟩
  all_goals first
    | (refine ret_err 0 rfl ?_; simp_all [actF]; done)
    | (refine ret_err 1 rfl ?_; simp_all [actF]; done)
    | (refine ret_err 3 rfl ?_; simp_all [actF]; done)
    | (refine ret_err 0 rfl ?_; simp [actF, *]; omega)
    | (refine ret_err 1 rfl ?_; simp [actF, *]; omega)
    | (refine ret_err 3 rfl ?_; simp [actF, *]; omega)
end Go.Proofs.YtkogafponpjdnaaGreatDoor

/- policy.Check: what a cond's op does not use. -/
namespace Go.Proofs.YtkogafponpjdnaaGreatDoor
open Go.RowKit

set_option maxHeartbeats 4000000 in
set_option maxRecDepth 100000 in
theorem hasUnused_seven (arg vi mi ii b lo hi : Int) (g : ByteArray) (w : World) : Calls Tryz.prog 70 #[.agg #[.int .i64 arg, .int .i64 7, .int .u64 vi, .int .u64 mi, .string g, .int .u32 ii, .int .i64 b, .int .i64 lo, .int .i64 hi]] w fun e w' => (∃ z, e = .returned (.bool z) ∧ (z = true ↔ g.toList ≠ [] ∨ ¬ (ii = 0 ∧ b = 0 ∧ lo = 0 ∧ hi = 0))) ∧ Below w.heap.size w w' := by
  have HK : ∀ w, Calls Tryz.prog 44 #[.int .i64 7] w fun e w' => e = .returned (.int .i64 1) ∧ w' = w := fun w => by
    have h := kindOf_any 7 w
    rwa [show ((kindOp 7 : Nat) : Int) = 1 by simp [kindOp]] at h
  go_enter Tryz.func70, Tryz.ntmps70
  go_wp2_with (go_at_call 44; refine (HK _).mono ?_; rintro e w' ⟨rfl, rfl⟩)
  all_goals
    go_ret
    refine ⟨⟨_, rfl, ?_⟩, box_below _ _⟩
  all_goals
    clear HK
    first
    | (simp_all; done)
    | (simp_all; omega)
set_option maxHeartbeats 4000000 in
set_option maxRecDepth 100000 in
theorem hasUnused_eight (arg vi mi ii b lo hi : Int) (g : ByteArray) (w : World) : Calls Tryz.prog 70 #[.agg #[.int .i64 arg, .int .i64 8, .int .u64 vi, .int .u64 mi, .string g, .int .u32 ii, .int .i64 b, .int .i64 lo, .int .i64 hi]] w fun e w' => (∃ z, e = .returned (.bool z) ∧ (z = true ↔ mi ≠ 0 ∨ vi ≠ 0 ∨ ¬ (ii = 0 ∧ b = 0 ∧ lo = 0 ∧ hi = 0))) ∧ Below w.heap.size w w' := by
  have HK : ∀ w, Calls Tryz.prog 44 #[.int .i64 8] w fun e w' => e = .returned (.int .i64 2) ∧ w' = w := fun w => by
    have h := kindOf_any 8 w
    rwa [show ((kindOp 8 : Nat) : Int) = 2 by simp [kindOp]] at h
  go_enter Tryz.func70, Tryz.ntmps70
  go_wp2_with (go_at_call 44; refine (HK _).mono ?_; rintro e w' ⟨rfl, rfl⟩)
  all_goals
    go_ret
    refine ⟨⟨_, rfl, ?_⟩, box_below _ _⟩
  all_goals
    clear HK
    first
    | (simp_all; done)
    | (simp_all; omega)
set_option maxHeartbeats 4000000 in
set_option maxRecDepth 100000 in
theorem hasUnused_nine (arg vi mi ii b lo hi : Int) (g : ByteArray) (w : World) : Calls Tryz.prog 70 #[.agg #[.int .i64 arg, .int .i64 9, .int .u64 vi, .int .u64 mi, .string g, .int .u32 ii, .int .i64 b, .int .i64 lo, .int .i64 hi]] w fun e w' => (∃ z, e = .returned (.bool z) ∧ (z = true ↔ mi ≠ 0 ∨ vi ≠ 0 ∨ g.toList ≠ [])) ∧ Below w.heap.size w w' := by
  have HK : ∀ w, Calls Tryz.prog 44 #[.int .i64 9] w fun e w' => e = .returned (.int .i64 3) ∧ w' = w := fun w => by
    have h := kindOf_any 9 w
    rwa [show ((kindOp 9 : Nat) : Int) = 3 by simp [kindOp]] at h
  go_enter Tryz.func70, Tryz.ntmps70
  go_wp2_with (go_at_call 44; refine (HK _).mono ?_; rintro e w' ⟨rfl, rfl⟩)
  all_goals
    go_ret
    refine ⟨⟨_, rfl, ?_⟩, box_below _ _⟩
  all_goals
    clear HK
    first
    | (simp_all; done)
    | (simp_all; omega)
set_option maxHeartbeats 4000000 in
set_option maxRecDepth 100000 in
theorem hasUnused_num (arg op vi mi ii b lo hi : Int) (g : ByteArray) (h7 : ¬ op = 7) (h8 : ¬ op = 8) (h9 : ¬ op = 9) (w : World) : Calls Tryz.prog 70 #[.agg #[.int .i64 arg, .int .i64 op, .int .u64 vi, .int .u64 mi, .string g, .int .u32 ii, .int .i64 b, .int .i64 lo, .int .i64 hi]] w fun e w' => (∃ z, e = .returned (.bool z) ∧ (z = true ↔ mi ≠ 0 ∨ g.toList ≠ [] ∨ ¬ (ii = 0 ∧ b = 0 ∧ lo = 0 ∧ hi = 0))) ∧ Below w.heap.size w w' := by
  have HK : ∀ w, Calls Tryz.prog 44 #[.int .i64 op] w fun e w' => e = .returned (.int .i64 1) ∧ w' = w := fun w => by
    have h := kindOf_any op w
    rwa [show ((kindOp op : Nat) : Int) = 1 by simp [kindOp, h8, h9]] at h
  go_enter Tryz.func70, Tryz.ntmps70
  go_wp2_with (go_at_call 44; refine (HK _).mono ?_; rintro e w' ⟨rfl, rfl⟩)
  all_goals
    go_ret
    refine ⟨⟨_, rfl, ?_⟩, box_below _ _⟩
  all_goals
    clear HK
    first
    | (simp_all; done)
    | (simp_all; omega)
theorem toList_nil (g : ByteArray) : g.toList = [] ↔ g.size = 0 := by
  rw [Lib.toList_data, Lib.size_eq, List.length_eq_zero_iff]
theorem hasUnused_any (c : CD) (w : World) : Calls Tryz.prog 70 #[condV c] w fun e w' => e = .returned (.bool (decide (unusedP c))) ∧ Below w.heap.size w w' := by
  obtain ⟨arg, op, v, m, g, ⟨ip, b, lo, hi⟩⟩ := c
  have hg := toList_nil g
  by_cases h7 : op = 7
  · subst h7
    refine (hasUnused_seven arg v m ip b lo hi g w).mono ?_
    rintro e w' ⟨⟨z, rfl, hz⟩, hb⟩
    refine ⟨ret_bool ?_, hb⟩
    rw [Bool.eq_iff_iff, hz, decide_eq_true_iff]
    simp only [unusedP, netZ, hg, ne_eq, Int.natCast_eq_zero]
    by_cases x1 : m = 0 <;> by_cases x2 : v = 0 <;> by_cases x3 : g.size = 0 <;> by_cases x4 : (ip = 0 ∧ b = 0 ∧ lo = 0 ∧ hi = 0) <;> simp [*]
  by_cases h8 : op = 8
  · subst h8
    refine (hasUnused_eight arg v m ip b lo hi g w).mono ?_
    rintro e w' ⟨⟨z, rfl, hz⟩, hb⟩
    refine ⟨ret_bool ?_, hb⟩
    rw [Bool.eq_iff_iff, hz, decide_eq_true_iff]
    simp only [unusedP, netZ, ne_eq, Int.natCast_eq_zero]
    by_cases x1 : m = 0 <;> by_cases x2 : v = 0 <;> by_cases x4 : (ip = 0 ∧ b = 0 ∧ lo = 0 ∧ hi = 0) <;> simp [*]
  by_cases h9 : op = 9
  · subst h9
    refine (hasUnused_nine arg v m ip b lo hi g w).mono ?_
    rintro e w' ⟨⟨z, rfl, hz⟩, hb⟩
    refine ⟨ret_bool ?_, hb⟩
    rw [Bool.eq_iff_iff, hz, decide_eq_true_iff]
    simp only [unusedP, netZ, hg, ne_eq, Int.natCast_eq_zero]
    by_cases x1 : m = 0 <;> by_cases x2 : v = 0 <;> by_cases x3 : g.size = 0 <;> by_cases x4 : (ip = 0 ∧ b = 0 ∧ lo = 0 ∧ hi = 0) <;> simp [*]
  · refine (hasUnused_num arg op v m ip b lo hi g h7 h8 h9 w).mono ?_
    rintro e w' ⟨⟨z, rfl, hz⟩, hb⟩
    refine ⟨ret_bool ?_, hb⟩
    rw [Bool.eq_iff_iff, hz, decide_eq_true_iff]
    simp only [unusedP, netZ, hg, ne_eq, Int.natCast_eq_zero]
    by_cases x1 : m = 0 <;> by_cases x2 : v = 0 <;> by_cases x3 : g.size = 0 <;> by_cases x4 : (ip = 0 ∧ b = 0 ∧ lo = 0 ∧ hi = 0) <;> simp [*]
end Go.Proofs.YtkogafponpjdnaaGreatDoor

/- api.Forms. -/
namespace Go.Proofs.YtkogafponpjdnaaGreatDoor
open Go.RowKit

def formsArr : Array Value := #[.string ⟨#[114, 101, 97, 100]⟩, .int .i64 1, .int .i64 1, .int .i64 0, .int .i64 0, .string ⟨#[119, 114, 105, 116, 101]⟩, .int .i64 1, .int .i64 1, .int .i64 0, .int .i64 0, .string ⟨#[111, 112, 101, 110]⟩, .int .i64 2, .int .i64 1, .int .i64 1, .int .i64 0, .string ⟨#[99, 108, 111, 115, 101]⟩, .int .i64 1, .int .i64 0, .int .i64 0, .int .i64 0, .string ⟨#[115, 116, 97, 116]⟩, .int .i64 2, .int .i64 0, .int .i64 0, .int .i64 0, .string ⟨#[114, 101, 110, 97, 109, 101]⟩, .int .i64 2, .int .i64 2, .int .i64 0, .int .i64 0, .string ⟨#[99, 111, 110, 110, 101, 99, 116]⟩, .int .i64 1, .int .i64 3, .int .i64 0, .int .i64 0, .string ⟨#[108, 105, 110, 107]⟩, .int .i64 2, .int .i64 2, .int .i64 1, .int .i64 0, .string ⟨#[115, 101, 110, 100]⟩, .int .i64 1, .int .i64 1, .int .i64 3, .int .i64 1]

set_option maxRecDepth 100000 in
set_option maxHeartbeats 2000000 in
theorem forms_any (w : World) :
    Calls Tryz.prog 48 #[] w fun e w' => e = .returned (.agg formsArr) ∧ Below w.heap.size w w' := by
  go_enter Tryz.func48, Tryz.ntmps48
  go_wp2_with (first | (refine wpList_buildTo rfl 104 _ rfl (some 19) rfl formsArr (by kernel_rfl) ?_) | (refine wpList_store_row rfl 104 _ _ rfl w.heap.size formsArr rfl rfl 104 _ (heap_alloc_new _ _) (by kernel_rfl) (by kernel_rfl) (by kernel_rfl) ?_))
  rw [World.setRow_alloc_new]
  exact bodyPost_ret (v := .agg formsArr) (results_cell_row rfl _ _ w.heap.size 104 formsArr (0, 0) _ rfl (heap_alloc_new _ _) Tryz.underlying104 rfl (by kernel_rfl)) rfl ⟨rfl, (Below.refl _ _).alloc (Nat.le_refl _) _⟩

def kindsV (nr : Nat) : Value := .agg #[.int .i64 (kindAt nr 0 : Nat), .int .i64 (kindAt nr 1 : Nat), .int .i64 (kindAt nr 2 : Nat), .int .i64 (kindAt nr 3 : Nat)]
def formV (nr : Nat) : Value := .agg #[.string ⟨(nameOf nr).toArray⟩, .int .i64 (kindAt nr 0 : Nat), .int .i64 (kindAt nr 1 : Nat), .int .i64 (kindAt nr 2 : Nat), .int .i64 (kindAt nr 3 : Nat)]
theorem forms_index (nr : Nat) (h : nr ≤ 8) (w : World) : (Instr.index 104 (.agg formsArr) (.int .i64 nr)).run Tryz.prog w = .ok (formV nr) w := by
  rcases nine h with rfl | rfl | rfl | rfl | rfl | rfl | rfl | rfl | rfl <;> kernel_rfl
theorem form_kinds (nr : Nat) (w : World) : (Instr.field 103 (formV nr) 1).run Tryz.prog w = .ok (kindsV nr) w := by kernel_rfl
theorem form_name (nr : Nat) (w : World) : (Instr.field 103 (formV nr) 0).run Tryz.prog w = .ok (.string ⟨(nameOf nr).toArray⟩) w := by kernel_rfl
end Go.Proofs.YtkogafponpjdnaaGreatDoor
