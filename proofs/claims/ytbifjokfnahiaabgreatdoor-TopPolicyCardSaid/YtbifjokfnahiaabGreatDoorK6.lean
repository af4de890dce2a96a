/- Policies: what they are, their words and lines, what is wrong with them; how texts are cut and joined. -/
import Derived.Test.YtbifjokfnahiaabGreatDoorK2
import Derived.Test.YtbifjokfnahiaabGreatDoorK5
import Derived.Lib.ParseIntB
import Derived.Lib.Split
import Derived.Lib.TrimByte
namespace Go.Proofs.YtbifjokfnahiaabGreatDoor

abbrev W8 := List UInt8

/-- An action. -/
structure ACT where
  kind : Int
  errno : Int
/-- A net. -/
structure NT where
  ip : Nat
  bits : Int
  lo : Int
  hi : Int
/-- A cond. -/
structure CD where
  arg : Int
  op : Int
  v : Nat
  m : Nat
  glob : ByteArray
  net : NT
/-- A rule. -/
structure RL where
  nr : Int
  conds : List CD
  act : ACT
/-- A policy. -/
structure POL where
  rules : List RL
  els : ACT

def actF (a : ACT) : Nat := if a.kind ≠ 1 ∧ a.kind ≠ 2 ∧ a.kind ≠ 3 then 3 else if a.kind ≠ 2 ∧ a.errno ≠ 0 then 3 else if a.kind = 2 ∧ (a.errno < 1 ∨ 255 < a.errno) then 1 else 0
def kindTab : List (List Nat) := [[1, 1, 0, 0], [1, 1, 0, 0], [2, 1, 1, 0], [1, 0, 0, 0], [2, 0, 0, 0], [2, 2, 0, 0], [1, 3, 0, 0], [2, 2, 1, 0], [1, 1, 3, 1]]
def kindAt (nr arg : Nat) : Nat := (kindTab.getD nr []).getD arg 0
def kindOp (op : Int) : Nat := if op = 8 then 2 else if op = 9 then 3 else 1
/-- Is a net its zero value? -/
def netZ (n : NT) : Prop := n.ip = 0 ∧ n.bits = 0 ∧ n.lo = 0 ∧ n.hi = 0
instance (n : NT) : Decidable (netZ n) := by unfold netZ; infer_instance
def unusedP (c : CD) : Prop := (c.m ≠ 0 ∧ c.op ≠ 7) ∨ (c.v ≠ 0 ∧ (c.op = 8 ∨ c.op = 9)) ∨ (c.glob.size ≠ 0 ∧ c.op ≠ 8) ∨ (¬ netZ c.net ∧ c.op ≠ 9)
instance (c : CD) : Decidable (unusedP c) := by unfold unusedP; infer_instance
def globF (p : ByteArray) : Nat := match Gl.parseR p with
  | .inl n => n
  | .inr _ => 0
def netF (n : NT) : Nat := faultOf n.ip n.bits n.lo n.hi
def condF (nr : Nat) (c : CD) : Nat :=
  if c.arg < 0 ∨ 3 < c.arg ∨ c.op < 1 ∨ 9 < c.op then 1
  else if kindAt nr c.arg.toNat ≠ kindOp c.op ∨ unusedP c then 3
  else if c.op = 8 then globF c.glob else if c.op = 9 then netF c.net else 0
/-- The first that is not nought. -/
def firstF : List Nat → Nat
  | [] => 0
  | x :: r => if x = 0 then firstF r else x
def ruleF (r : RL) : Nat :=
  if r.nr < 0 ∨ 8 < r.nr then 1 else if 4 < r.conds.length then 2
  else if firstF (r.conds.map (condF r.nr.toNat)) = 0 then actF r.act else firstF (r.conds.map (condF r.nr.toNat))
def polF (p : POL) : Nat := if 12 < p.rules.length then 2 else if actF p.els = 0 then firstF (p.rules.map ruleF) else actF p.els

theorem firstF_zero : ∀ {l : List Nat}, firstF l = 0 ↔ ∀ x ∈ l, x = 0
  | [] => by simp [firstF]
  | x :: r => by
    by_cases h : x = 0
    · simp [firstF, h, firstF_zero (l := r)]
    · simp [firstF, h]

/-! Words. -/
def wAllow : W8 := [97, 108, 108, 111, 119]
def wKill : W8 := [107, 105, 108, 108]
def wDeny : W8 := [100, 101, 110, 121]
def wElse : W8 := [101, 108, 115, 101]
def wIf : W8 := [105, 102]
def wAnd : W8 := [97, 110, 100]
def signW : List W8 := [[61, 61], [33, 61], [60], [60, 61], [62], [62, 61], [38], [126], [105, 110]]
def nameW : List W8 := [[114, 101, 97, 100], [119, 114, 105, 116, 101], [111, 112, 101, 110], [99, 108, 111, 115, 101], [115, 116, 97, 116], [114, 101, 110, 97, 109, 101], [99, 111, 110, 110, 101, 99, 116], [108, 105, 110, 107], [115, 101, 110, 100]]
def signOf (op : Int) : W8 := signW.getD (op.toNat - 1) []
def nameOf (nr : Int) : W8 := nameW.getD nr.toNat []
def actW (a : ACT) : List W8 := if a.kind = 1 then [wAllow] else if a.kind = 3 then [wKill] else [wDeny, Lib.decDigits a.errno.toNat]
def netW (n : NT) : W8 := netText n.ip n.bits.toNat n.lo.toNat n.hi.toNat
def condW (c : CD) : List W8 := Lib.decDigits c.arg.toNat :: signOf c.op ::
  (if c.op = 7 then [Lib.decDigits c.m, [61, 61], Lib.decDigits c.v] else if c.op = 8 then [34 :: (c.glob.data.toList ++ [34])] else if c.op = 9 then [netW c.net] else [Lib.decDigits c.v])
def condsW : Bool → List CD → List W8
  | _, [] => []
  | f, c :: r => (if f then wIf else wAnd) :: (condW c ++ condsW false r)
def ruleW (r : RL) : List W8 := actW r.act ++ nameOf r.nr :: condsW true r.conds
/-- Joined, with a byte between. -/
def joinC (c : UInt8) : List W8 → W8
  | [] => []
  | [w] => w
  | w :: x :: r => w ++ c :: joinC c (x :: r)
def textP (p : POL) : W8 := joinC 32 (wElse :: actW p.els) ++ 10 :: p.rules.flatMap fun r => joinC 32 (ruleW r) ++ [10]
/-- Cut at a byte. -/
def splitC (c : UInt8) : W8 → List W8
  | [] => [[]]
  | x :: r => if x = c then [] :: splitC c r else match splitC c r with
    | [] => [[x]]
    | h :: t => (x :: h) :: t

theorem splitC_ne (c : UInt8) : ∀ l : W8, splitC c l ≠ []
  | [] => by simp [splitC]
  | x :: r => by
    unfold splitC
    split
    · simp
    · split <;> simp
theorem splitC_app (c : UInt8) (b : W8) : ∀ a : W8, c ∉ a → splitC c (a ++ c :: b) = a :: splitC c b
  | [], _ => by simp [splitC]
  | x :: r, h => by
    have hx : x ≠ c := fun e => h (by simp [e])
    rw [List.cons_append, splitC, if_neg hx, splitC_app c b r (fun e => h (by simp [e]))]
theorem splitC_self (c : UInt8) : ∀ a : W8, c ∉ a → splitC c a = [a]
  | [], _ => rfl
  | x :: r, h => by
    have hx : x ≠ c := fun e => h (by simp [e])
    rw [splitC, if_neg hx, splitC_self c r (fun e => h (by simp [e]))]
theorem split_join (c : UInt8) : ∀ ws : List W8, ws ≠ [] → (∀ w ∈ ws, c ∉ w) → splitC c (joinC c ws) = ws
  | [], h, _ => absurd rfl h
  | [w], _, h => by rw [joinC, splitC_self c w (h w (by simp))]
  | w :: x :: r, _, h => by
    rw [joinC, splitC_app c _ w (h w (by simp)), split_join c (x :: r) (by simp) fun y hy => h y (by simp [hy])]
theorem join_cons (c : UInt8) (w : W8) : ∀ r : List W8, r ≠ [] → joinC c (w :: r) = w ++ c :: joinC c r
  | [], h => absurd rfl h
  | _ :: _, _ => rfl
theorem join_app (c : UInt8) (b : List W8) (hb : b ≠ []) : ∀ a : List W8, a ≠ [] → joinC c (a ++ b) = joinC c a ++ c :: joinC c b
  | [], h => absurd rfl h
  | [w], _ => by rw [List.singleton_append, join_cons c w b hb]; rfl
  | w :: x :: r, _ => by
    rw [List.cons_append, List.cons_append, joinC, ← List.cons_append, join_app c b hb (x :: r) (by simp), joinC]
    simp
theorem join_split (c : UInt8) : ∀ l : W8, joinC c (splitC c l) = l
  | [] => rfl
  | x :: r => by
    have ih := join_split c r
    unfold splitC
    split
    · rename_i hx
      rw [join_cons c _ _ (splitC_ne c r), ih, hx]
      rfl
    · split
      · rename_i he
        exact absurd he (splitC_ne c r)
      · rename_i h t he
        rw [he] at ih
        cases t with
        | nil => rw [← ih]; rfl
        | cons y z => rw [← ih]; rfl
/-- No piece has the byte. -/
theorem split_notin (c : UInt8) : ∀ (l : W8) (w : W8), w ∈ splitC c l → c ∉ w
  | [], w, h => by
    rw [splitC, List.mem_singleton] at h
    simp [h]
  | x :: r, w, h => by
    have ih := split_notin c r
    unfold splitC at h
    split at h
    · rcases List.mem_cons.1 h with rfl | h
      · simp
      · exact ih w h
    · rename_i hx
      split at h
      · rw [List.mem_singleton] at h
        subst h
        simpa using fun e => hx e.symm
      · rename_i p t he
        rcases List.mem_cons.1 h with rfl | h
        · intro hm
          rcases List.mem_cons.1 hm with e | e
          · exact hx e.symm
          · exact ih p (by rw [he]; simp) e
        · exact ih w (by rw [he]; simp [h])
/-- Lines, each with a byte behind it: what is cut ends with an empty one. -/
theorem split_lines (c : UInt8) : ∀ ls : List W8, (∀ w ∈ ls, c ∉ w) → splitC c (ls.flatMap fun w => w ++ [c]) = ls ++ [[]]
  | [], _ => rfl
  | w :: r, h => by
    have e : (List.flatMap (fun w => w ++ [c]) (w :: r)) = w ++ c :: List.flatMap (fun w => w ++ [c]) r := by simp
    rw [e, splitC_app c _ w (h w (by simp)), split_lines c r fun y hy => h y (by simp [hy])]
    rfl
theorem lines_join (c : UInt8) : ∀ ls : List W8, joinC c (ls ++ [[]]) = ls.flatMap fun w => w ++ [c]
  | [] => rfl
  | w :: r => by
    rw [List.cons_append, join_cons c w _ (by simp), lines_join c r]
    simp
end Go.Proofs.YtbifjokfnahiaabGreatDoor

/- Policies read: as the code reads (loosely), as the document reads; what is written is read, what is read was written. -/
namespace Go.Proofs.YtbifjokfnahiaabGreatDoor

theorem nDigits_le20 (n : Nat) (h : n < 18446744073709551616) : (Lib.decDigits n).length ≤ 20 := by
  rw [Lib.decDigits_length]
  have step : ∀ k m, m < 10 ^ (k + 1) → Lib.nDigits m ≤ k + 1 := by
    intro k
    induction k with
    | zero =>
      intro m hm
      unfold Lib.nDigits
      rw [dif_pos (by simpa using hm)]
      exact Nat.le_refl _
    | succ k ih =>
      intro m hm
      unfold Lib.nDigits
      split
      · omega
      · have := ih (m / 10) (by rw [Nat.div_lt_iff_lt_mul (by omega)]; rwa [Nat.pow_succ] at hm)
        omega
  exact step 19 n (by omega)

theorem fig_dec (n : Nat) (h : n < 18446744073709551616) : figOk (Lib.decDigits n) = true ∧ figN (Lib.decDigits n) = n := by
  have hl := nDigits_le20 n h
  have hc : ¬ (20 < (Lib.decDigits n).length ∨ (Lib.decDigits n).all isDig = false) := by
    rw [dec_all]
    simp
    omega
  have hn : figN (Lib.decDigits n) = n := by
    unfold figN
    rw [if_neg hc, dec_val]
    exact Nat.mod_eq_of_lt h
  refine ⟨?_, hn⟩
  unfold figOk
  rw [if_neg hc, hn]
  simp
theorem fig_ok {w : W8} (h : figOk w = true) : w = Lib.decDigits (figN w) := by
  unfold figOk at h
  split at h
  · cases h
  · exact (eq_of_beq h).symm
theorem figN_lt (w : W8) : figN w < 18446744073709551616 := by
  unfold figN
  split
  · omega
  · exact Nat.mod_lt _ (by omega)

theorem digVal_ge : ∀ (l : W8) (n : Nat), n ≤ digVal n l
  | [], n => Nat.le_refl _
  | c :: r, n => by
    rw [digVal_cons]
    have := digVal_ge r (n * 10 + (c.toNat - 48))
    omega
theorem parseM_digits : ∀ (l : W8) (acc : Nat), l.all isDig = true → digVal acc l < 18446744073709551616 → Lib.parseUintM (2 ^ 64 - 1) acc l = .ok (digVal acc l)
  | [], _, _, _ => rfl
  | c :: r, acc, ha, hv => by
    rw [List.all_cons, Bool.and_eq_true] at ha
    have hd := ha.1
    unfold isDig at hd
    rw [Bool.and_eq_true, decide_eq_true_eq, decide_eq_true_eq] at hd
    rw [digVal_cons] at hv ⊢
    have hg := digVal_ge r (acc * 10 + (c.toNat - 48))
    rw [Lib.parseUintM, if_pos hd, if_neg (by omega), if_neg (by omega), parseM_digits r _ ha.2 hv]
/-- readNumber of a word. -/
def numU (w : W8) : Nat := match Lib.parseUintB 64 w with
  | .ok n => n
  | _ => 0
theorem numU_dec (n : Nat) (h : n < 18446744073709551616) : numU (Lib.decDigits n) = n := by
  unfold numU Lib.parseUintB
  rw [if_neg (dec_ne n), parseM_digits _ 0 (dec_all n) (by rw [dec_val]; exact h), dec_val]

/-- The number of a call's name; -1: none. -/
def findCall (w : W8) : Int := match nameW.findIdx? (· == w) with
  | some i => i
  | none => -1
def findOp (w : W8) : Nat := match signW.findIdx? (· == w) with
  | some i => i + 1
  | none => 0
/-- A uint64 as an int. -/
def toI (n : Nat) : Int := IntKind.i64.wrap n
theorem toI_small (n : Nat) (h : n < 9223372036854775808) : toI n = n := by
  unfold toI
  rw [IntKind.wrap_i64]
  omega
def trimQ (w : W8) : W8 := Lib.trimB w 34

/-! The code's reading: what is read, and the words that are left. -/
def readAct (l : List W8) : ACT × List W8 :=
  if l.headD [] = wAllow then (⟨1, 0⟩, l.tail) else if l.headD [] = wKill then (⟨3, 0⟩, l.tail)
  else if l.headD [] = wDeny then (⟨2, toI (numU (l.tail.headD []))⟩, l.tail.tail) else (⟨0, 0⟩, l.tail)
def noNet : NT := ⟨0, 0, 0, 0⟩
def netRead (w : W8) : NT := match parseR w with
  | some (ip, b, lo, hi) => ⟨ip, b, lo, hi⟩
  | none => noNet
def readCond (l : List W8) : CD × List W8 :=
  let arg := toI (numU (l.headD []))
  let op := findOp (l.tail.headD [])
  let r := l.tail.tail
  if op = 8 then (⟨arg, op, 0, 0, ⟨(trimQ (r.headD [])).toArray⟩, noNet⟩, r.tail)
  else if op = 9 then (⟨arg, op, 0, 0, ByteArray.empty, netRead (r.headD [])⟩, r.tail)
  else if op = 7 then (⟨arg, op, numU (r.tail.tail.headD []), numU (r.headD []), ByteArray.empty, noNet⟩, r.tail.tail.tail)
  else (⟨arg, op, numU (r.headD []), 0, ByteArray.empty, noNet⟩, r.tail)
theorem readCond_le (l : List W8) : (readCond l).2.length ≤ l.length := by
  unfold readCond
  simp only
  split
  · simp; omega
  · split
    · simp; omega
    · split
      · simp; omega
      · simp; omega
def readConds : Nat → List W8 → List CD
  | 0, _ => []
  | n + 1, l => if l = [] then [] else (readCond l.tail).1 :: readConds n (readCond l.tail).2
def readRule (line : W8) : RL :=
  let l := splitC 32 line
  let r := (readAct l).2
  ⟨findCall (r.headD []), readConds r.tail.length r.tail, (readAct l).1⟩
def trimN (s : W8) : W8 := Lib.trimSuffix s [10]
def readP (s : W8) : POL :=
  ⟨(splitC 10 (trimN s)).tail.map readRule, (readAct ((splitC 32 ((splitC 10 (trimN s)).headD [])).tail)).1⟩

/-! The document's. -/
def docDeny : List W8 → Option (ACT × Nat)
  | [] => none
  | x :: _ => if figOk x = true ∧ figN x < 1000 then some (⟨2, figN x⟩, 2) else none
def docAct : List W8 → Option (ACT × Nat)
  | [] => none
  | w :: r => if w = wAllow then some (⟨1, 0⟩, 1) else if w = wKill then some (⟨3, 0⟩, 1) else if w = wDeny then docDeny r else none
def findOp6 (w : W8) : Nat := match (signW.take 6).findIdx? (· == w) with
  | some i => i + 1
  | none => 0
def docMask (a x : W8) : List W8 → Option (CD × Nat)
  | y :: z :: _ => if y = [61, 61] ∧ figOk x = true ∧ figOk z = true then some (⟨figN a, 7, figN z, figN x, ByteArray.empty, noNet⟩, 5) else none
  | _ => none
def docCond : List W8 → Option (CD × Nat)
  | a :: s :: x :: r =>
    if figOk a = true ∧ figN a ≤ 3 then
      if s = [38] then docMask a x r
      else if s = [126] then (if 2 ≤ x.length ∧ x.head? = some 34 ∧ x.getLast? = some 34 then some (⟨figN a, 8, 0, 0, ⟨x.tail.dropLast.toArray⟩, noNet⟩, 3) else none)
      else if s = [105, 110] then (match parseR x with
        | some (ip, b, lo, hi) => some (⟨figN a, 9, 0, 0, ByteArray.empty, ⟨ip, b, lo, hi⟩⟩, 3)
        | none => none)
      else if findOp6 s ≠ 0 ∧ figOk x = true then some (⟨figN a, findOp6 s, figN x, 0, ByteArray.empty, noNet⟩, 3) else none
    else none
  | _ => none
def docConds : Nat → Bool → List W8 → Option (List CD)
  | _, _, [] => some []
  | 0, _, _ :: _ => none
  | n + 1, f, w :: r => if w = (if f then wIf else wAnd) then (match docCond r with
      | some (c, k) => (docConds n false (r.drop k)).map (c :: ·)
      | none => none) else none
def docRule (l : List W8) : Option RL := match docAct l with
  | some (a, n) => if n < l.length then (match docConds l.length true (l.drop (n + 1)) with
    | some cs => if findCall (l.getD n []) < 0 then none else some ⟨findCall (l.getD n []), cs, a⟩
    | none => none) else none
  | none => none
def docRules : List W8 → Option (List RL)
  | [] => some []
  | w :: r => match docRule (splitC 32 w) with
    | some x => (docRules r).map (x :: ·)
    | none => none
/-- The first words of a text. -/
def docHead (l : List W8) : Option ACT := match l with
  | [] => none
  | w :: r => if w = wElse then (match docAct r with
    | some (a, n) => if n = r.length then some a else none
    | none => none) else none
def docP (s : W8) : Option POL :=
  let ls := splitC 10 s
  if ls.length < 2 ∨ 14 < ls.length ∨ ls.getLast? ≠ some [] then none
  else match docHead (splitC 32 (ls.headD [])) with
    | some a => (match docRules ls.tail.dropLast with
      | some rs => if polF ⟨rs, a⟩ = 0 then some ⟨rs, a⟩ else none
      | none => none)
    | none => none
end Go.Proofs.YtbifjokfnahiaabGreatDoor
