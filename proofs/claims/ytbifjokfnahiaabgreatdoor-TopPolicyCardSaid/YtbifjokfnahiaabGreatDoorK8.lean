/- What is written is read; what is read was written. -/
import Derived.Test.YtbifjokfnahiaabGreatDoorK6
import Derived.Test.YtbifjokfnahiaabGreatDoorGPrint
import Derived.Lib.TrimByte
import Derived.Test.YtbifjokfnahiaabGreatDoorK2
namespace Go.Proofs.YtbifjokfnahiaabGreatDoor

def I64 (n : Int) : Prop := -9223372036854775808 ≤ n ∧ n ≤ 9223372036854775807
theorem i64_small {n : Int} (h0 : 0 ≤ n) (h1 : n ≤ 4294967296) : I64 n := by unfold I64; omega
theorem i64_nat {k : Nat} (h : k ≤ 4294967296) : I64 (k : Int) := by unfold I64; omega
structure AcOk (a : ACT) : Prop where
  kind : I64 a.kind
  errno : I64 a.errno
structure NtOk (n : NT) : Prop where
  ip : n.ip < 4294967296
  bits : I64 n.bits
  lo : I64 n.lo
  hi : I64 n.hi
structure CdOk (c : CD) : Prop where
  arg : I64 c.arg
  op : I64 c.op
  v : c.v < 18446744073709551616
  m : c.m < 18446744073709551616
  net : NtOk c.net
structure RlOk (r : RL) : Prop where
  nr : I64 r.nr
  conds : ∀ c ∈ r.conds, CdOk c
  act : AcOk r.act
structure PlOk (p : POL) : Prop where
  rules : ∀ r ∈ p.rules, RlOk r
  els : AcOk p.els

theorem act_cases {a : ACT} (h : actF a = 0) : a = ⟨1, 0⟩ ∨ a = ⟨3, 0⟩ ∨ ∃ n : Nat, 1 ≤ n ∧ n ≤ 255 ∧ a = ⟨2, n⟩ := by
  obtain ⟨k, e⟩ := a
  unfold actF at h
  simp only at h
  split at h
  · cases h
  · split at h
    · cases h
    · split at h
      · cases h
      · rename_i h1 h2 h3
        rcases (by omega : k = 1 ∨ k = 3 ∨ k = 2) with rfl | rfl | rfl
        · left; congr; omega
        · right; left; congr; omega
        · right; right
          exact ⟨e.toNat, by omega, by omega, by congr; omega⟩
/-- What a right cond looks like. -/
inductive Shape : CD → Prop
  | num (a k v : Nat) (ha : a ≤ 3) (h1 : 1 ≤ k) (h6 : k ≤ 6) (hv : v < 18446744073709551616) : Shape ⟨a, k, v, 0, ByteArray.empty, noNet⟩
  | mask (a v m : Nat) (ha : a ≤ 3) (hv : v < 18446744073709551616) (hm : m < 18446744073709551616) : Shape ⟨a, 7, v, m, ByteArray.empty, noNet⟩
  | like (a : Nat) (g : ByteArray) (ha : a ≤ 3) (hg : globF g = 0) : Shape ⟨a, 8, 0, 0, g, noNet⟩
  | net (a ip b lo hi : Nat) (ha : a ≤ 3) (hip : ip < 4294967296) (hf : faultOf ip b lo hi = 0) : Shape ⟨a, 9, 0, 0, ByteArray.empty, ⟨ip, b, lo, hi⟩⟩
theorem empty_of {g : ByteArray} (h : g.size = 0) : g = ByteArray.empty := ByteArray.size_eq_zero_iff.1 h
theorem cond_shape {nr : Nat} {c : CD} (h : condF nr c = 0) (hc : CdOk c) : Shape c := by
  obtain ⟨arg, op, v, m, g, ⟨ip, b, lo, hi⟩⟩ := c
  obtain ⟨_, _, hv, hm, ⟨hip, _, _, _⟩⟩ := hc
  unfold condF at h
  simp only at h hv hm hip
  split at h
  · cases h
  · rename_i h0
    split at h
    · cases h
    · rename_i h1
      rw [not_or] at h1
      have hu := h1.2
      unfold unusedP netZ at hu
      simp only [not_or, not_and, Classical.not_not] at hu
      obtain ⟨u1, u2, u3, u4⟩ := hu
      obtain ⟨a, rfl⟩ : ∃ a : Nat, arg = a := ⟨arg.toNat, by omega⟩
      obtain ⟨k, rfl⟩ : ∃ k : Nat, op = k := ⟨op.toNat, by omega⟩
      have ha : a ≤ 3 := by omega
      by_cases k8 : k = 8
      · subst k8
        rw [if_pos (by omega)] at h
        obtain rfl : m = 0 := Classical.byContradiction fun e => by have := u1 e; omega
        obtain rfl : v = 0 := Classical.byContradiction fun e => by have := u2 e; omega
        obtain ⟨rfl, rfl, rfl, rfl⟩ : ip = 0 ∧ b = 0 ∧ lo = 0 ∧ hi = 0 := Classical.byContradiction fun e => by have := u4 (by simpa using e); omega
        exact Shape.like a g ha h
      · have eg := empty_of (Classical.byContradiction fun e => k8 (by have := u3 e; omega))
        subst eg
        by_cases k9 : k = 9
        · subst k9
          rw [if_neg (by omega), if_pos (by omega)] at h
          obtain rfl : m = 0 := Classical.byContradiction fun e => by have := u1 e; omega
          obtain rfl : v = 0 := Classical.byContradiction fun e => by have := u2 e; omega
          have hf := fault_ok (show faultOf ip b lo hi = 0 from h)
          obtain ⟨b, rfl⟩ : ∃ k : Nat, b = k := ⟨b.toNat, by omega⟩
          obtain ⟨lo, rfl⟩ : ∃ k : Nat, lo = k := ⟨lo.toNat, by omega⟩
          obtain ⟨hi, rfl⟩ : ∃ k : Nat, hi = k := ⟨hi.toNat, by omega⟩
          exact Shape.net a ip b lo hi ha hip h
        · obtain ⟨rfl, rfl, rfl, rfl⟩ : ip = 0 ∧ b = 0 ∧ lo = 0 ∧ hi = 0 := Classical.byContradiction fun e => by have := u4 (by simpa using e); omega
          by_cases k7 : k = 7
          · subst k7
            exact Shape.mask a v m ha hv hm
          · obtain rfl : m = 0 := Classical.byContradiction fun e => by have := u1 e; omega
            exact Shape.num a k v ha (by omega) (by omega) hv

theorem find_some {l : List W8} {w : W8} {i : Nat} (h : l.findIdx? (· == w) = some i) : l.getD i [] = w ∧ i < l.length := by
  obtain ⟨hi, h1, _⟩ := List.findIdx?_eq_some_iff_getElem.1 h
  refine ⟨?_, hi⟩
  rw [List.getD_eq_getElem?_getD, List.getElem?_eq_getElem hi, Option.getD_some]
  exact eq_of_beq h1
theorem call_some {w : W8} (h : ¬ findCall w < 0) : nameOf (findCall w) = w ∧ findCall w ≤ 8 := by
  unfold findCall at h ⊢
  cases hf : nameW.findIdx? (· == w) with
  | none => rw [hf] at h; exact absurd (by decide) h
  | some i =>
    have := find_some hf
    refine ⟨?_, ?_⟩
    · unfold nameOf
      simpa using this.1
    · have h2 := this.2
      simp [nameW] at h2 ⊢
      omega
theorem nine {k : Nat} (h : k ≤ 8) : k = 0 ∨ k = 1 ∨ k = 2 ∨ k = 3 ∨ k = 4 ∨ k = 5 ∨ k = 6 ∨ k = 7 ∨ k = 8 := by omega
theorem call_name {nr : Int} (h0 : 0 ≤ nr) (h8 : nr ≤ 8) : findCall (nameOf nr) = nr := by
  obtain ⟨k, rfl⟩ : ∃ k : Nat, nr = k := ⟨nr.toNat, by omega⟩
  rcases nine (show k ≤ 8 by omega) with rfl | rfl | rfl | rfl | rfl | rfl | rfl | rfl | rfl <;> decide
theorem six {k : Nat} (h1 : 1 ≤ k) (h6 : k ≤ 6) : k = 1 ∨ k = 2 ∨ k = 3 ∨ k = 4 ∨ k = 5 ∨ k = 6 := by omega
theorem op6_some {w : W8} (h : findOp6 w ≠ 0) : signOf (findOp6 w) = w ∧ findOp6 w ≤ 6 := by
  unfold findOp6 at h ⊢
  cases hf : (signW.take 6).findIdx? (· == w) with
  | none => rw [hf] at h; exact absurd rfl h
  | some i =>
    have h1 := find_some hf
    have h2 := h1.2
    simp [signW] at h2
    refine ⟨?_, by simp only; omega⟩
    rw [← h1.1]
    rcases six (k := i + 1) (by omega) (by omega) with h | h | h | h | h | h <;> (obtain rfl : i = _ := Nat.succ.inj h; rfl)

theorem trimQ_of {g : W8} (h : (34 : UInt8) ∉ g) : trimQ (34 :: (g ++ [34])) = g := by
  unfold trimQ Lib.trimB Lib.trimLeftB Lib.trimRightB
  have e : (34 :: (g ++ [34])).reverse = 34 :: (g.reverse ++ [34]) := by simp
  rw [e]
  cases hg : g.reverse with
  | nil =>
    have : g = [] := by simpa using hg
    subst this
    decide
  | cons x r =>
    have hx : x ≠ 34 := fun e => h (by rw [← List.mem_reverse, hg, e]; simp)
    have e1 : List.dropWhile (· == (34 : UInt8)) (34 :: (x :: r ++ [34])) = x :: r ++ [34] := by simp [hx]
    rw [e1, ← hg]
    simp only [List.reverse_append, List.reverse_reverse, List.reverse_cons, List.reverse_nil, List.nil_append, List.singleton_append]
    cases g with
    | nil => simp
    | cons y z =>
      have hy : y ≠ 34 := fun e => h (by simp [e])
      simp [hy]
theorem glob_print {g : ByteArray} (h : globF g = 0) : (∀ b ∈ g.data.toList, Gl.printB b.toNat) ∧ g.size ≤ 24 := by
  unfold globF at h
  cases hp : Gl.parseR g with
  | inl n =>
    rw [hp] at h
    simp only at h
    unfold Gl.parseR at hp
    repeat' split at hp
    all_goals simp at hp
    all_goals omega
  | inr ps => exact ⟨Gl.parse_print hp, (Gl.parse_size hp).1⟩
theorem glob_noquote {g : ByteArray} (h : globF g = 0) : (34 : UInt8) ∉ g.data.toList := fun hm => by
  have := ((glob_print h).1 34 hm).2.2
  exact this rfl

theorem readCond_cond {c : CD} (h : Shape c) (r : List W8) : readCond (condW c ++ r) = (c, r) := by
  cases h with
  | num a k v ha h1 h6 hv =>
    have e1 := numU_dec a (by omega)
    have e2 := numU_dec v hv
    have e3 := toI_small a (by omega)
    rcases six h1 h6 with rfl | rfl | rfl | rfl | rfl | rfl <;> simp [readCond, condW, signOf, signW, findOp, e1, e2, e3, List.findIdx?, List.findIdx?.go]
  | mask a v m ha hv hm =>
    have e1 := numU_dec a (by omega)
    have e2 := numU_dec v hv
    have e4 := numU_dec m hm
    have e3 := toI_small a (by omega)
    simp [readCond, condW, signOf, signW, findOp, e1, e2, e3, e4, List.findIdx?, List.findIdx?.go]
  | like a g ha hg =>
    have e1 := numU_dec a (by omega)
    have e3 := toI_small a (by omega)
    have e2 := trimQ_of (glob_noquote hg)
    simp [readCond, condW, signOf, signW, findOp, e1, e2, e3, List.findIdx?, List.findIdx?.go]
  | net a ip b lo hi ha hip hf =>
    have e1 := numU_dec a (by omega)
    have e3 := toI_small a (by omega)
    have e2 := parse_text hip hf
    simp [readCond, condW, signOf, signW, findOp, e1, e3, netRead, netW, e2, List.findIdx?, List.findIdx?.go]
theorem docCond_cond {c : CD} (h : Shape c) (r : List W8) : docCond (condW c ++ r) = some (c, (condW c).length) := by
  cases h with
  | num a k v ha h1 h6 hv =>
    have e1 := fig_dec a (by omega)
    have e2 := fig_dec v hv
    rcases six h1 h6 with rfl | rfl | rfl | rfl | rfl | rfl <;> simp [docCond, condW, signOf, signW, findOp6, e1, e2, ha, List.findIdx?, List.findIdx?.go]
  | mask a v m ha hv hm =>
    have e1 := fig_dec a (by omega)
    have e2 := fig_dec v hv
    have e4 := fig_dec m hm
    simp [docCond, docMask, condW, signOf, signW, e1, e2, e4, ha]
  | like a g ha hg =>
    have e1 := fig_dec a (by omega)
    have e2 : (34 :: (g.data.toList ++ [34])).getLast? = some (34 : UInt8) := by rw [← List.cons_append, List.getLast?_concat]
    simp [docCond, condW, signOf, signW, e1, ha, e2]
  | net a ip b lo hi ha hip hf =>
    have e1 := fig_dec a (by omega)
    have e2 := parse_text hip hf
    simp [docCond, condW, signOf, signW, e1, ha, netW, e2]
end Go.Proofs.YtbifjokfnahiaabGreatDoor

/- .. of whole policies. -/
namespace Go.Proofs.YtbifjokfnahiaabGreatDoor

theorem readAct_act {a : ACT} (h : actF a = 0) (r : List W8) : readAct (actW a ++ r) = (a, r) := by
  rcases act_cases h with rfl | rfl | ⟨n, h1, h2, rfl⟩
  · rfl
  · rfl
  · have e1 := numU_dec n (by omega)
    have e2 := toI_small n (by omega)
    simp [readAct, actW, wDeny, wAllow, wKill, e1, e2]
theorem docAct_act {a : ACT} (h : actF a = 0) (r : List W8) : docAct (actW a ++ r) = some (a, (actW a).length) := by
  rcases act_cases h with rfl | rfl | ⟨n, h1, h2, rfl⟩
  · rfl
  · rfl
  · have e1 := fig_dec n (by omega)
    have e2 : n < 1000 := by omega
    simp [docAct, docDeny, actW, wDeny, wAllow, wKill, e1, e2]
theorem actW_ne (a : ACT) : actW a ≠ [] := by
  unfold actW
  split
  · simp
  · split <;> simp
theorem docAct_some {l : List W8} {a : ACT} {n : Nat} (h : docAct l = some (a, n)) : l.take n = actW a ∧ 1 ≤ n ∧ n ≤ l.length ∧ AcOk a := by
  cases l with
  | nil => cases h
  | cons w r =>
    rw [docAct] at h
    split at h
    · rename_i e
      simp only [Option.some.injEq, Prod.mk.injEq] at h
      obtain ⟨rfl, rfl⟩ := h
      subst e
      exact ⟨rfl, by omega, by simp, ⟨i64_small (by decide) (by decide), i64_small (by decide) (by decide)⟩⟩
    · split at h
      · rename_i e
        simp only [Option.some.injEq, Prod.mk.injEq] at h
        obtain ⟨rfl, rfl⟩ := h
        subst e
        exact ⟨rfl, by omega, by simp, ⟨i64_small (by decide) (by decide), i64_small (by decide) (by decide)⟩⟩
      · split at h
        · rename_i e
          cases r with
          | nil => cases h
          | cons x t =>
            rw [docDeny] at h
            split at h
            · rename_i hx
              simp only [Option.some.injEq, Prod.mk.injEq] at h
              obtain ⟨rfl, rfl⟩ := h
              subst e
              have := fig_ok hx.1
              refine ⟨?_, by omega, by simp, ⟨i64_nat (k := 2) (by omega), i64_nat (by omega)⟩⟩
              simp only [actW, List.take_succ_cons, List.take_zero]
              rw [if_neg (by decide), if_neg (by decide)]
              simp only [Int.toNat_natCast]
              rw [← this]
            · cases h
        · cases h
theorem noNet_ok : NtOk noNet := ⟨by decide, i64_small (by decide) (by decide), i64_small (by decide) (by decide), i64_small (by decide) (by decide)⟩
theorem tail_quotes {x : W8} (h2 : 2 ≤ x.length) (h0 : x.head? = some 34) (h1 : x.getLast? = some 34) : x = 34 :: (x.tail.dropLast ++ [34]) := by
  cases x with
  | nil => simp at h2
  | cons a t =>
    simp only [List.head?_cons, Option.some.injEq] at h0
    subst h0
    have ht : t ≠ [] := fun e => by rw [e] at h2; simp at h2
    rw [List.getLast?_cons_of_ne_nil ht] at h1
    rw [List.tail_cons]
    obtain ⟨hne, hl⟩ := List.getLast?_eq_some_iff.1 h1 |> fun ⟨ys, e⟩ => (⟨ht, ⟨ys, e⟩⟩ : t ≠ [] ∧ ∃ ys, t = ys ++ [34])
    obtain ⟨ys, rfl⟩ := hl
    simp
theorem docCond_some {l : List W8} {c : CD} {n : Nat} (h : docCond l = some (c, n)) : l.take n = condW c ∧ 3 ≤ n ∧ n ≤ l.length ∧ CdOk c := by
  match l, h with
  | a :: s :: x :: r, h =>
    rw [docCond] at h
    split at h
    · rename_i ha
      have ea := fig_ok ha.1
      have hI : I64 (figN a : Int) := i64_nat (by omega)
      have hO : ∀ k : Nat, k ≤ 9 → I64 (k : Int) := fun k hk => i64_nat (by omega)
      split at h
      · rename_i es
        subst es
        match r, h with
        | y :: z :: t, h =>
          rw [docMask] at h
          split at h
          · rename_i hy
            simp only [Option.some.injEq, Prod.mk.injEq] at h
            obtain ⟨rfl, rfl⟩ := h
            have ex := fig_ok hy.2.1
            have ez := fig_ok hy.2.2
            refine ⟨?_, by omega, by simp, ⟨hI, hO 7 (by omega), figN_lt z, figN_lt x, noNet_ok⟩⟩
            rw [hy.1]
            simp [condW, signOf, signW, ← ea, ← ex, ← ez]
          · cases h
      · split at h
        · rename_i es
          subst es
          split at h
          · rename_i hq
            simp only [Option.some.injEq, Prod.mk.injEq] at h
            obtain ⟨rfl, rfl⟩ := h
            refine ⟨?_, by omega, by simp, ⟨hI, hO 8 (by omega), by simp, by simp, noNet_ok⟩⟩
            have := tail_quotes hq.1 hq.2.1 hq.2.2
            simp [condW, signOf, signW, ← ea, ← this]
          · cases h
        · split at h
          · rename_i es
            subst es
            split at h
            · rename_i ip b lo hi hp
              simp only [Option.some.injEq, Prod.mk.injEq] at h
              obtain ⟨rfl, rfl⟩ := h
              obtain ⟨hip, hf, hx⟩ := parse_some hp
              have hk := fault_ok hf
              refine ⟨?_, by omega, by simp, ⟨hI, hO 9 (by omega), by simp, by simp, ⟨hip, i64_nat (by omega), i64_nat (by omega), i64_nat (by omega)⟩⟩⟩
              simp [condW, signOf, signW, ← ea, netW, hx]
            · cases h
          · split at h
            · rename_i ho
              simp only [Option.some.injEq, Prod.mk.injEq] at h
              obtain ⟨rfl, rfl⟩ := h
              have hs := op6_some ho.1
              have ex := fig_ok ho.2
              refine ⟨?_, by omega, by simp, ⟨hI, hO _ (by omega), figN_lt x, by simp, noNet_ok⟩⟩
              have n7 : ¬ ((findOp6 s : Int) = 7) := by omega
              have n8 : ¬ ((findOp6 s : Int) = 8) := by omega
              have n9 : ¬ ((findOp6 s : Int) = 9) := by omega
              simp only [condW, if_neg n7, if_neg n8, if_neg n9, hs.1, Int.toNat_natCast, ← ea, ← ex]
              rfl
            · cases h
    · cases h

/-- All conds of a list are right, for some call. -/
def ShapeAll (cs : List CD) : Prop := ∀ c ∈ cs, Shape c
theorem condW_ne (c : CD) : condW c ≠ [] := by unfold condW; simp
theorem condW_pos (c : CD) : 3 ≤ (condW c).length := by
  unfold condW
  split
  · simp
  · split
    · simp
    · split <;> simp
theorem readConds_conds : ∀ (cs : List CD) (f : Bool) (n : Nat), ShapeAll cs → (condsW f cs).length ≤ n → readConds n (condsW f cs) = cs
  | [], _, n, _, _ => by cases n <;> simp [condsW, readConds]
  | c :: r, f, n, h, hn => by
    cases n with
    | zero => simp [condsW] at hn
    | succ n =>
      rw [condsW] at hn ⊢
      rw [readConds, if_neg (by simp), List.tail_cons, readCond_cond (h c (by simp))]
      simp only [List.length_cons, List.length_append] at hn
      rw [readConds_conds r false n (fun x hx => h x (by simp [hx])) (by omega)]
theorem docConds_conds : ∀ (cs : List CD) (f : Bool) (n : Nat), ShapeAll cs → (condsW f cs).length ≤ n → docConds n f (condsW f cs) = some cs
  | [], _, n, _, _ => by cases n <;> simp [condsW, docConds]
  | c :: r, f, n, h, hn => by
    cases n with
    | zero => simp [condsW] at hn
    | succ n =>
      rw [condsW] at hn ⊢
      simp only [List.length_cons, List.length_append] at hn
      rw [docConds]
      simp only [if_true, docCond_cond (h c (by simp)), List.drop_left, docConds_conds r false n (fun x hx => h x (by simp [hx])) (by omega)]
      rfl
theorem docConds_some : ∀ (n : Nat) (f : Bool) (l : List W8) (cs : List CD), docConds n f l = some cs → condsW f cs = l ∧ ∀ c ∈ cs, CdOk c
  | n, f, [], cs, h => by
    rw [docConds] at h
    simp only [Option.some.injEq] at h
    subst h
    exact ⟨rfl, fun c hc => by cases hc⟩
  | 0, f, w :: r, cs, h => by
    rw [docConds] at h
    cases h
  | n + 1, f, w :: r, cs, h => by
      rw [docConds] at h
      by_cases e : w = if f then wIf else wAnd
      · rw [if_pos e] at h
        cases hk : docCond r with
        | none => rw [hk] at h; cases h
        | some ck =>
          obtain ⟨c, k⟩ := ck
          rw [hk] at h
          simp only at h
          cases hd : docConds n false (r.drop k) with
          | none => rw [hd] at h; cases h
          | some ds =>
            rw [hd] at h
            simp only [Option.map_some, Option.some.injEq] at h
            subst h
            have h1 := docCond_some hk
            have h2 := docConds_some n false _ ds hd
            refine ⟨?_, fun x hx => ?_⟩
            · rw [condsW, ← e, ← h1.1, h2.1, List.take_append_drop]
            · rcases List.mem_cons.1 hx with rfl | hx
              · exact h1.2.2.2
              · exact h2.2 x hx
      · rw [if_neg e] at h; cases h

/-- What a right rule is. -/
structure RuleOk (r : RL) : Prop where
  nr0 : 0 ≤ r.nr
  nr8 : r.nr ≤ 8
  few : r.conds.length ≤ 4
  conds : ShapeAll r.conds
  act : actF r.act = 0
theorem rule_ok {r : RL} (h : ruleF r = 0) (hr : RlOk r) : RuleOk r := by
  unfold ruleF at h
  split at h
  · cases h
  · split at h
    · cases h
    · split at h
      · rename_i h0 h1 h2
        refine ⟨by omega, by omega, by omega, fun c hc => ?_, h⟩
        exact cond_shape ((firstF_zero.1 h2) _ (List.mem_map.2 ⟨c, hc, rfl⟩)) (hr.conds c hc)
      · rename_i h3
        exact absurd h h3
structure PolOk (p : POL) : Prop where
  few : p.rules.length ≤ 12
  rules : ∀ r ∈ p.rules, RuleOk r
  els : actF p.els = 0
theorem pol_ok {p : POL} (h : polF p = 0) (hp : PlOk p) : PolOk p := by
  unfold polF at h
  split at h
  · cases h
  · split at h
    · rename_i h0 h1
      exact ⟨by omega, fun r hr => rule_ok ((firstF_zero.1 h) _ (List.mem_map.2 ⟨r, hr, rfl⟩)) (hp.rules r hr), h1⟩
    · rename_i h2
      exact absurd h h2

theorem ruleW_ne (r : RL) : ruleW r ≠ [] := by unfold ruleW; simp
/-- No word has a blank or an end of line. -/
def Plain (w : W8) : Prop := (32 : UInt8) ∉ w ∧ (10 : UInt8) ∉ w
theorem plain_of {w : W8} (h : ∀ b ∈ w, 33 ≤ b.toNat) : Plain w := ⟨fun hm => by have := h 32 hm; simp at this, fun hm => by have := h 10 hm; simp at this⟩
theorem dig_33 {w : W8} (h : w.all isDig = true) : ∀ b ∈ w, 33 ≤ b.toNat := fun b hb => by
  have := List.all_eq_true.1 h b hb
  unfold isDig at this
  rw [Bool.and_eq_true, decide_eq_true_eq] at this
  omega
theorem dec_33 (n : Nat) : ∀ b ∈ Lib.decDigits n, 33 ≤ b.toNat := dig_33 (dec_all n)
theorem joinN_33 : ∀ (cs : List UInt8) (ns : List Nat), (∀ c ∈ cs, 33 ≤ c.toNat) → ∀ b ∈ joinN cs ns, 33 ≤ b.toNat
  | _, [], _, b, hb => by simp [joinN] at hb
  | [], n :: r, _, b, hb => dec_33 n b (by simpa [joinN] using hb)
  | c :: cs, n :: r, h, b, hb => by
    simp only [joinN, List.mem_append, List.mem_cons] at hb
    rcases hb with hb | rfl | hb
    · exact dec_33 n b hb
    · exact h _ (by simp)
    · exact joinN_33 cs r (fun x hx => h x (by simp [hx])) b hb
theorem actW_plain {a : ACT} (w : W8) (hw : w ∈ actW a) : Plain w := by
  unfold actW at hw
  apply plain_of
  split at hw
  · rw [List.mem_singleton] at hw; subst hw; decide
  · split at hw
    · rw [List.mem_singleton] at hw; subst hw; decide
    · simp only [List.mem_cons, List.not_mem_nil, or_false] at hw
      rcases hw with rfl | rfl
      · decide
      · exact dec_33 _
theorem condW_plain {c : CD} (h : Shape c) (w : W8) (hw : w ∈ condW c) : Plain w := by
  apply plain_of
  cases h with
  | num a k v ha h1 h6 hv =>
    rcases six h1 h6 with rfl | rfl | rfl | rfl | rfl | rfl <;>
    · simp [condW, signOf, signW] at hw
      rcases hw with rfl | rfl | rfl
      · exact dec_33 _
      · decide
      · exact dec_33 _
  | mask a v m ha hv hm =>
    simp [condW, signOf, signW] at hw
    rcases hw with rfl | rfl | rfl | rfl | rfl
    · exact dec_33 _
    · decide
    · exact dec_33 _
    · decide
    · exact dec_33 _
  | like a g ha hg =>
    simp [condW, signOf, signW] at hw
    rcases hw with rfl | rfl | rfl
    · exact dec_33 _
    · decide
    · intro b hb
      simp only [List.mem_cons, List.mem_append, List.not_mem_nil, or_false] at hb
      rcases hb with rfl | hb | rfl
      · decide
      · exact ((glob_print hg).1 b (by simpa using hb)).1
      · decide
  | net a ip b lo hi ha hip hf =>
    simp [condW, signOf, signW] at hw
    rcases hw with rfl | rfl | rfl
    · exact dec_33 _
    · decide
    · exact joinN_33 _ _ (by decide)
theorem condsW_plain : ∀ (cs : List CD) (f : Bool), ShapeAll cs → ∀ w ∈ condsW f cs, Plain w
  | [], _, _, w, hw => by cases hw
  | c :: r, f, h, w, hw => by
    simp only [condsW, List.mem_cons, List.mem_append] at hw
    rcases hw with rfl | hw | hw
    · cases f
      · exact plain_of (by decide)
      · exact plain_of (by decide)
    · exact condW_plain (h c (by simp)) w hw
    · exact condsW_plain r false (fun x hx => h x (by simp [hx])) w hw
theorem name_plain {nr : Int} (h0 : 0 ≤ nr) (h8 : nr ≤ 8) : Plain (nameOf nr) := by
  obtain ⟨k, rfl⟩ : ∃ k : Nat, nr = k := ⟨nr.toNat, by omega⟩
  rcases nine (show k ≤ 8 by omega) with rfl | rfl | rfl | rfl | rfl | rfl | rfl | rfl | rfl <;> exact plain_of (by decide)
theorem ruleW_plain {r : RL} (h : RuleOk r) (w : W8) (hw : w ∈ ruleW r) : Plain w := by
  simp only [ruleW, List.mem_append, List.mem_cons] at hw
  rcases hw with hw | rfl | hw
  · exact actW_plain w hw
  · exact name_plain h.nr0 h.nr8
  · exact condsW_plain _ _ h.conds w hw
theorem join_notin (c x : UInt8) (hx : x ≠ c) : ∀ ws : List W8, (∀ w ∈ ws, x ∉ w) → x ∉ joinC c ws
  | [], _ => by simp [joinC]
  | [w], h => h w (by simp)
  | w :: y :: r, h => by
    rw [joinC]
    simp only [List.mem_append, List.mem_cons, not_or]
    exact ⟨h w (by simp), hx, join_notin c x hx (y :: r) fun v hv => h v (by simp [hv])⟩

theorem readRule_rule {r : RL} (h : RuleOk r) : readRule (joinC 32 (ruleW r)) = r := by
  have e := split_join 32 (ruleW r) (ruleW_ne r) fun w hw => (ruleW_plain h w hw).1
  unfold readRule
  simp only [e]
  unfold ruleW
  rw [readAct_act h.act]
  simp only [List.headD_cons, List.tail_cons, call_name h.nr0 h.nr8, readConds_conds r.conds true _ h.conds (Nat.le_refl _)]
theorem docRule_rule {r : RL} (h : RuleOk r) : docRule (ruleW r) = some r := by
  unfold docRule
  have e1 : docAct (ruleW r) = some (r.act, (actW r.act).length) := docAct_act h.act _
  have e2 : (ruleW r).drop ((actW r.act).length + 1) = condsW true r.conds := by
    unfold ruleW
    rw [List.drop_append, List.drop_eq_nil_of_le (by omega)]
    simp
  have e3 : (ruleW r).getD (actW r.act).length [] = nameOf r.nr := by
    unfold ruleW
    rw [List.getD_eq_getElem?_getD, List.getElem?_append_right (Nat.le_refl _)]
    simp
  have hl : (ruleW r).length = (actW r.act).length + 1 + (condsW true r.conds).length := by unfold ruleW; simp; omega
  rw [e1]
  simp only
  rw [if_pos (by omega), e2, docConds_conds r.conds true _ h.conds (by omega), e3, call_name h.nr0 h.nr8]
  simp only
  rw [if_neg (by have := h.nr0; omega)]
theorem docRule_some {l : List W8} {r : RL} (h : docRule l = some r) : ruleW r = l ∧ RlOk r := by
  unfold docRule at h
  split at h
  · rename_i a n ha
    have h1 := docAct_some ha
    split at h
    · rename_i hn
      split at h
      · rename_i cs hc
        have h2 := docConds_some _ _ _ _ hc
        split at h
        · cases h
        · rename_i hcall
          simp only [Option.some.injEq] at h
          subst h
          have h3 := call_some hcall
          refine ⟨?_, ⟨i64_small (by simp only; omega) (by simp only; omega), h2.2, h1.2.2.2⟩⟩
          unfold ruleW
          simp only
          rw [h2.1, h3.1, ← h1.1, List.getD_eq_getElem?_getD, List.getElem?_eq_getElem hn, Option.getD_some, List.getElem_cons_drop, List.take_append_drop]
      · cases h
    · cases h
  · cases h

/-- The lines of a policy's text. -/
def linesP (p : POL) : List W8 := joinC 32 (wElse :: actW p.els) :: p.rules.map fun r => joinC 32 (ruleW r)
theorem textP_lines (p : POL) : textP p = (linesP p).flatMap fun w => w ++ [10] := by
  unfold textP linesP
  simp [List.flatMap_map]
theorem head_plain (a : ACT) (w : W8) (hw : w ∈ wElse :: actW a) : Plain w := by
  rcases List.mem_cons.1 hw with rfl | hw
  · exact plain_of (by decide)
  · exact actW_plain w hw
theorem linesP_plain {p : POL} (h : PolOk p) (w : W8) (hw : w ∈ linesP p) : (10 : UInt8) ∉ w := by
  unfold linesP at hw
  rcases List.mem_cons.1 hw with rfl | hw
  · exact join_notin 32 10 (by decide) _ fun v hv => (head_plain _ v hv).2
  · obtain ⟨r, hr, rfl⟩ := List.mem_map.1 hw
    exact join_notin 32 10 (by decide) _ fun v hv => (ruleW_plain (h.rules r hr) v hv).2
theorem trimN_text (p : POL) : trimN (textP p) = joinC 10 (linesP p) := by
  have e : textP p = joinC 10 (linesP p) ++ [10] := by
    rw [textP_lines, ← lines_join 10, join_app 10 [[]] (by simp) _ (by unfold linesP; simp)]
    rfl
  unfold trimN Lib.trimSuffix
  rw [e, if_pos (by simp [Lib.hasSuffix])]
  simp
/-- T1: what is written is read as it was, by the code. -/
theorem readP_text {p : POL} (h : PolOk p) : readP (textP p) = p := by
  unfold readP
  rw [trimN_text, split_join 10 (linesP p) (by unfold linesP; simp) (linesP_plain h)]
  have e1 : (linesP p).headD [] = joinC 32 (wElse :: actW p.els) := rfl
  have e2 : (linesP p).tail = p.rules.map fun r => joinC 32 (ruleW r) := rfl
  have e4 : (readAct (actW p.els)).1 = p.els := by
    have := readAct_act h.els []
    rw [List.append_nil] at this
    rw [this]
  rw [e1, e2, split_join 32 _ (by simp) fun w hw => (head_plain _ w hw).1, List.tail_cons, e4, List.map_map]
  have e3 : p.rules.map (readRule ∘ fun r => joinC 32 (ruleW r)) = p.rules := by
    have : p.rules.map (readRule ∘ fun r => joinC 32 (ruleW r)) = p.rules.map id := List.map_congr_left fun r hr => readRule_rule (h.rules r hr)
    rw [this, List.map_id]
  rw [e3]
theorem docRules_map : ∀ rs : List RL, (∀ r ∈ rs, RuleOk r) → docRules (rs.map fun r => joinC 32 (ruleW r)) = some rs
  | [], _ => rfl
  | r :: t, h => by
    rw [List.map_cons, docRules, split_join 32 (ruleW r) (ruleW_ne r) fun w hw => (ruleW_plain (h r (by simp)) w hw).1, docRule_rule (h r (by simp)), docRules_map t fun x hx => h x (by simp [hx])]
    rfl
theorem docRules_some : ∀ (ls : List W8) (rs : List RL), docRules ls = some rs → (rs.map fun r => joinC 32 (ruleW r)) = ls ∧ ∀ r ∈ rs, RlOk r
  | [], rs, h => by
    simp only [docRules, Option.some.injEq] at h
    subst h
    exact ⟨rfl, fun r hr => by cases hr⟩
  | w :: t, rs, h => by
    rw [docRules] at h
    split at h
    · rename_i x hx
      cases hd : docRules t with
      | none => rw [hd] at h; cases h
      | some ys =>
        rw [hd] at h
        simp only [Option.map_some, Option.some.injEq] at h
        subst h
        have h1 := docRule_some hx
        have h2 := docRules_some t ys hd
        refine ⟨?_, fun r hr => ?_⟩
        · rw [List.map_cons, h2.1, h1.1, join_split]
        · rcases List.mem_cons.1 hr with rfl | hr
          · exact h1.2
          · exact h2.2 r hr
    · cases h
/-- T2: .. by the document. -/
theorem docP_text {p : POL} (h : PolOk p) (hf : polF p = 0) : docP (textP p) = some p := by
  unfold docP
  rw [textP_lines, split_lines 10 _ (linesP_plain h)]
  have hl : (linesP p ++ [[]]).length = p.rules.length + 2 := by unfold linesP; simp
  have h12 := h.few
  have e1 : (linesP p ++ [[]]).headD [] = joinC 32 (wElse :: actW p.els) := rfl
  have e2 : (linesP p ++ [[]]).tail.dropLast = p.rules.map fun r => joinC 32 (ruleW r) := by unfold linesP; simp
  simp only
  rw [if_neg (by rw [hl]; simp; omega), e1, e2, split_join 32 _ (by simp) fun w hw => (head_plain _ w hw).1, docRules_map p.rules h.rules]
  have e3 : docHead (wElse :: actW p.els) = some p.els := by
    have := docAct_act h.els []
    rw [List.append_nil] at this
    unfold docHead
    simp only [if_true, this]
  rw [e3]
  simp only
  rw [if_pos hf]
/-- T3: what the document reads is the text of what it reads. -/
theorem docP_some {s : W8} {p : POL} (h : docP s = some p) : textP p = s ∧ polF p = 0 ∧ PlOk p := by
  unfold docP at h
  simp only at h
  split at h
  · cases h
  · rename_i hc
    simp only [not_or, Nat.not_lt, Decidable.not_not] at hc
    obtain ⟨h2, _, hlast⟩ := hc
    split at h
    · rename_i a ha
      split at h
      · rename_i rs hrs
        split at h
        · rename_i hf
          simp only [Option.some.injEq] at h
          subst h
          have h1 := docRules_some _ _ hrs
          have hb : AcOk a ∧ joinC 32 (wElse :: actW a) = (splitC 10 s).headD [] := by
            unfold docHead at ha
            split at ha
            · cases ha
            · rename_i w r hw
              split at ha
              · rename_i ew
                split at ha
                · rename_i b n hn
                  split at ha
                  · rename_i en
                    simp only [Option.some.injEq] at ha
                    subst ha
                    have h3 := docAct_some hn
                    refine ⟨h3.2.2.2, ?_⟩
                    rw [← h3.1, en, List.take_length, ← ew, ← hw, join_split]
                  · cases ha
                · cases ha
              · cases ha
          refine ⟨?_, hf, ⟨h1.2, hb.1⟩⟩
          rw [textP_lines]
          unfold linesP
          simp only
          rw [h1.1, hb.2]
          obtain ⟨ys, hys⟩ := List.getLast?_eq_some_iff.1 hlast
          cases ys with
          | nil => rw [hys] at h2; simp at h2
          | cons y t =>
            rw [hys]
            simp only [List.cons_append, List.headD_cons, List.tail_cons, List.dropLast_concat]
            rw [← lines_join 10 (y :: t), List.cons_append, ← List.cons_append, ← hys, join_split]
        · cases h
      · cases h
    · cases h
/-- The code's answer is the document's. -/
theorem parse_same (s : W8) (hp : PlOk (readP s)) : (if polF (readP s) = 0 ∧ textP (readP s) = s then some (readP s) else none) = docP s := by
  split
  · rename_i h
    have := docP_text (pol_ok h.1 hp) h.1
    rw [h.2] at this
    exact this.symm
  · rename_i h
    cases hd : docP s with
    | none => rfl
    | some p =>
      obtain ⟨h1, h2, h3⟩ := docP_some hd
      have hr := readP_text (pol_ok h2 h3)
      rw [h1] at hr
      exact absurd ⟨by rw [hr]; exact h2, by rw [hr]; exact h1⟩ h
end Go.Proofs.YtbifjokfnahiaabGreatDoor

/- Policies as values and cells. -/
namespace Go.Proofs.YtbifjokfnahiaabGreatDoor
open Go.RowKit

theorem box_below (w : World) (o : Obj) : Below w.heap.size w (w.alloc o) := (Below.refl _ _).alloc (Nat.le_refl _) _
theorem below_next {w w1 w2 : World} (a : Below w.heap.size w w1) (b : Below w1.heap.size w1 w2) : Below w.heap.size w w2 := a.trans (b.mono a.size)
theorem errV_zero : errV 0 = .nilIface := rfl
theorem errV_pos {f : Nat} (h : f ≠ 0) : errV f = .iface 61 (.int .i64 f) := if_neg h

def actV (a : ACT) : Value := .agg #[.int .i64 a.kind, .int .i64 a.errno]
def condV (c : CD) : Value := .agg #[.int .i64 c.arg, .int .i64 c.op, .int .u64 c.v, .int .u64 c.m, .string c.glob, .int .u32 c.net.ip, .int .i64 c.net.bits, .int .i64 c.net.lo, .int .i64 c.net.hi]
def ruleV (r : RL) (oa : Option Addr) (cap : Nat) : Value := .agg #[.int .i64 r.nr, .slice oa r.conds.length cap, .int .i64 r.act.kind, .int .i64 r.act.errno]
def polV (p : POL) (oa : Option Addr) (cap : Nat) : Value := .agg #[.slice oa p.rules.length cap, .int .i64 p.els.kind, .int .i64 p.els.errno]

/-- A cond's cells lie from o on. -/
structure CondAt (W : World) (b o : Nat) (c : CD) : Prop where
  k0 : W.cell? ⟨b, o, none⟩ = some (.int .i64 c.arg)
  k1 : W.cell? ⟨b, o + 1, none⟩ = some (.int .i64 c.op)
  k2 : W.cell? ⟨b, o + 2, none⟩ = some (.int .u64 c.v)
  k3 : W.cell? ⟨b, o + 3, none⟩ = some (.int .u64 c.m)
  k4 : W.cell? ⟨b, o + 4, none⟩ = some (.string c.glob)
  k5 : W.cell? ⟨b, o + 5, none⟩ = some (.int .u32 c.net.ip)
  k6 : W.cell? ⟨b, o + 6, none⟩ = some (.int .i64 c.net.bits)
  k7 : W.cell? ⟨b, o + 7, none⟩ = some (.int .i64 c.net.lo)
  k8 : W.cell? ⟨b, o + 8, none⟩ = some (.int .i64 c.net.hi)
  ok : CdOk c
theorem CondAt.on {W V : World} {b o : Nat} {x : CD} (h : CondAt W b o x) (hc : ∀ j, V.cell? ⟨b, j, none⟩ = W.cell? ⟨b, j, none⟩) : CondAt V b o x :=
  ⟨(hc _).trans h.k0, (hc _).trans h.k1, (hc _).trans h.k2, (hc _).trans h.k3, (hc _).trans h.k4, (hc _).trans h.k5, (hc _).trans h.k6, (hc _).trans h.k7, (hc _).trans h.k8, h.ok⟩
/-- A slice of conds in a world. -/
structure IsConds (oa : Option Addr) (cs : List CD) (W : World) : Prop where
  lie : 0 < cs.length → ∃ b off, oa = some ⟨b, off, none⟩ ∧ b < W.heap.size ∧ ∀ i c, cs[i]? = some c → CondAt W b (off + i * 9) c
theorem IsConds.on {oa : Option Addr} {cs : List CD} {W V : World} (h : IsConds oa cs W) (hb : Below W.heap.size W V) : IsConds oa cs V :=
  ⟨fun h0 => by
    obtain ⟨b, off, h1, h2, h3⟩ := h.lie h0
    exact ⟨b, off, h1, Nat.lt_of_lt_of_le h2 hb.size, fun i c hi => (h3 i c hi).on fun j => (bcell hb).1 b j h2⟩⟩
theorem IsConds.nil (oa : Option Addr) (W : World) : IsConds oa [] W := ⟨fun h => absurd h (Nat.lt_irrefl 0)⟩
/-- A rule's cells lie from o on. -/
structure RuleAt (W : World) (b o : Nat) (r : RL) (oa : Option Addr) (cap : Nat) : Prop where
  k0 : W.cell? ⟨b, o, none⟩ = some (.int .i64 r.nr)
  k1 : W.cell? ⟨b, o + 1, none⟩ = some (.slice oa r.conds.length cap)
  k2 : W.cell? ⟨b, o + 2, none⟩ = some (.int .i64 r.act.kind)
  k3 : W.cell? ⟨b, o + 3, none⟩ = some (.int .i64 r.act.errno)
  conds : IsConds oa r.conds W
  le : r.conds.length ≤ cap
  cap : cap ≤ maxLen
  ok : RlOk r
theorem RuleAt.on {W V : World} {b o : Nat} {r : RL} {oa : Option Addr} {cap : Nat} (h : RuleAt W b o r oa cap) (hw : b < W.heap.size) (hb : Below W.heap.size W V) : RuleAt V b o r oa cap :=
  have hc := fun j => (bcell hb).1 b j hw
  ⟨(hc _).trans h.k0, (hc _).trans h.k1, (hc _).trans h.k2, (hc _).trans h.k3, h.conds.on hb, h.le, h.cap, h.ok⟩
/-- A slice of rules in a world. -/
structure IsRules (oa : Option Addr) (rs : List RL) (W : World) : Prop where
  lie : 0 < rs.length → ∃ b off, oa = some ⟨b, off, none⟩ ∧ b < W.heap.size ∧ ∀ i r, rs[i]? = some r → ∃ ca ccap, RuleAt W b (off + i * 4) r ca ccap
theorem IsRules.on {oa : Option Addr} {rs : List RL} {W V : World} (h : IsRules oa rs W) (hb : Below W.heap.size W V) : IsRules oa rs V :=
  ⟨fun h0 => by
    obtain ⟨b, off, h1, h2, h3⟩ := h.lie h0
    refine ⟨b, off, h1, Nat.lt_of_lt_of_le h2 hb.size, fun i r hi => ?_⟩
    obtain ⟨ca, cc, h4⟩ := h3 i r hi
    exact ⟨ca, cc, h4.on h2 hb⟩⟩
theorem IsRules.nil (oa : Option Addr) (W : World) : IsRules oa [] W := ⟨fun h => absurd h (Nat.lt_irrefl 0)⟩
/-- A policy in a world, by its slice of rules. -/
structure IsPol (oa : Option Addr) (cap : Nat) (p : POL) (W : World) : Prop where
  rules : IsRules oa p.rules W
  le : p.rules.length ≤ cap
  cap : cap ≤ maxLen
  ok : PlOk p
theorem IsPol.on {oa : Option Addr} {cap : Nat} {p : POL} {W V : World} (h : IsPol oa cap p W) (hb : Below W.heap.size W V) : IsPol oa cap p V := ⟨h.rules.on hb, h.le, h.cap, h.ok⟩
end Go.Proofs.YtbifjokfnahiaabGreatDoor

/- strconv.FormatUint at base 10, by the contracts that FormatInt's stands on. -/
namespace Go.Proofs.YtbifjokfnahiaabGreatDoor
open Go.RowKit Go.Sort

theorem fin_zero (w : World) (o : Obj) (dk : Array UInt8) (k : Nat) : Below w.heap.size w ((putRow (fun (b : UInt8) => Value.int .u8 (b.toNat : Int)) (w.alloc o) w.heap.size 0 dk).drewN k) := by
  rw [alloc_eq_grow]
  obtain ⟨os', _, e⟩ := putRow_grow_new (fun (b : UInt8) => Value.int .u8 (b.toNat : Int)) w #[o] w.heap.size 0 dk (Nat.le_refl _)
  rw [e]
  exact ⟨rfl, rfl, rfl, by simp [Sort.grow], fun k hk => by simp [Sort.grow, Array.getElem?_append_left hk]⟩

set_option maxHeartbeats 2000000 in
theorem ifmt_any (u : Nat) (hu64 : u < 18446744073709551616) (w : World) (ht : Tab w) : Calls Tryz.prog 88 #[.int .u64 u, .int .i64 10] w fun e w' => e = .returned (.string ⟨(Lib.decDigits u).toArray⟩) ∧ Below w.heap.size w w' := by
  by_cases hs : u < 100
  · have hc : IntKind.i64.wrap (u : Int) = u := by rw [IntKind.wrap_i64]; omega
    have h1 : (u : Int) < 100 := by omega
    go_enter Tryz.func88, Tryz.ntmps88
    go_wp2_with (go_at_call 84; refine (Tryz.internal_strconv_small u hs _).mono ?_; rintro e w' ⟨rfl, rfl⟩)
    go_ret
    exact ⟨rfl, Below.refl _ _⟩
  · have hu1 : 1 ≤ u := by omega
    have h1 : ¬ (u : Int) < 100 := by omega
    have hnd20 : Lib.nDigits u ≤ 20 := by have := Lib.numDigits_eq u hu1 hu64; split at this <;> omega
    have hb3 : Lib.nDigits u ≤ 24 := by omega
    have hsl1 : ∀ W, (Instr.sliceAt 141 (.pointer (some ⟨w.heap.size, 0, none⟩)) none (some (.int .i64 (Lib.nDigits u : Int))) none).run Tryz.prog W = .ok (.slice (some ⟨w.heap.size, 0, none⟩) (Lib.nDigits u) 24) W := fun W => by
      have hal : Tryz.prog.arrayLen 141 = 24 := by kernel_rfl
      rw [run_sliceAt_array_h W 141 ⟨w.heap.size, 0, none⟩ (by kernel_rfl) .i64 (Lib.nDigits u : Int) (by omega) (by rw [hal]; omega)]
      go_simp
    have hH0 := Lib.holds_zero0 w 141 (Lib.nDigits u) (by omega)
    have hfmt := Tryz.internal_strconv_formatBase10 w.heap.size 0 24 u (Array.replicate (Lib.nDigits u) 0) (w.alloc (.cells Lib.zeros24 141)) hH0 (by rw [Array.size_replicate]; exact Lib.lt_pow_nDigits u) hu64 (by rw [Array.size_replicate]; omega)
    rw [Array.size_replicate] at hfmt
    have HH0 := Lib.hid hH0
    clear hH0
    go_enter Tryz.func88, Tryz.ntmps88
    go_wp2_with (first
      | (go_at_call 85; refine (Tryz.internal_strconv_numDigits u hu1 hu64 _ (Lib.tabIs_alloc ht _)).mono ?_; rintro e w' ⟨rfl, rfl⟩))
    go_at_call 86
    refine hfmt.mono ?_
    rintro e w' ⟨rfl, k, v', dk, rfl, hF⟩
    have hcv : (convert 144 9 (.slice (some ⟨w.heap.size, 0, none⟩) (Lib.nDigits u) 24)).run Tryz.prog ((putRow (fun (b : UInt8) => Value.int .u8 (b.toNat : Int)) (w.alloc (.cells Lib.zeros24 141)) w.heap.size 0 dk).drewN k) = .ok (.string ⟨(Lib.decDigits u).toArray⟩) ((putRow (fun (b : UInt8) => Value.int .u8 (b.toNat : Int)) (w.alloc (.cells Lib.zeros24 141)) w.heap.size 0 dk).drewN k) := by
      have h := run_convert_bytes_back (P := Tryz.prog) ((putRow (fun (b : UInt8) => Value.int .u8 (b.toNat : Int)) (w.alloc (.cells Lib.zeros24 141)) w.heap.size 0 dk).drewN k) 144 9 5 ⟨w.heap.size, 0, none⟩ 24 (Lib.decDigits u) Tryz.underlying144 Tryz.underlying5 Tryz.underlying9 (fun j hj => by
        rw [Lib.row_is_numeral hF j hj, Lib.add_plain, World.cell?_drewN]
        exact cell?_putRow (fun (b : UInt8) => Value.int .u8 (b.toNat : Int)) _ w.heap.size 0 _ dk HH0.out (by rw [hF.size, Array.size_replicate]) j (by rw [hF.size]; rw [Lib.decDigits_length] at hj; exact hj))
      rw [Lib.decDigits_length] at h
      exact h
    go_wp2
    go_ret
    exact ⟨rfl, fin_zero _ _ _ _⟩
theorem fmt_any (u : Nat) (hu64 : u < 18446744073709551616) (w : World) (ht : Tab w) : Calls Tryz.prog 61 #[.int .u64 u, .int .i64 10] w fun e w' => e = .returned (.string ⟨(Lib.decDigits u).toArray⟩) ∧ Below w.heap.size w w' := by
  have H := ifmt_any u hu64 w ht
  obtain ⟨d, hd⟩ : ∃ d : ByteArray, d = ⟨(Lib.decDigits u).toArray⟩ := ⟨_, rfl⟩
  rw [← hd] at H ⊢
  clear hd
  go_enter Tryz.func61, Tryz.ntmps61
  go_wp2_with (go_at_call 88; refine H.mono ?_; rintro e w' ⟨rfl, hb⟩)
  go_ret
  exact ⟨rfl, hb⟩
theorem numText_any (u : Nat) (hu64 : u < 18446744073709551616) (w : World) (ht : Tab w) : Calls Tryz.prog 48 #[.int .u64 u] w fun e w' => e = .returned (.string ⟨(Lib.decDigits u).toArray⟩) ∧ Below w.heap.size w w' := by
  have H := fmt_any u hu64 w ht
  obtain ⟨d, hd⟩ : ∃ d : ByteArray, d = ⟨(Lib.decDigits u).toArray⟩ := ⟨_, rfl⟩
  rw [← hd] at H ⊢
  clear hd
  go_enter Tryz.func48, Tryz.ntmps48
  go_wp2_with (go_at_call 61; refine H.mono ?_; rintro e w' ⟨rfl, hb⟩)
  go_ret
  exact ⟨rfl, hb⟩
end Go.Proofs.YtbifjokfnahiaabGreatDoor
