/- Small lemmas of my own that every walk of this seat uses: a world forgotten but for what is said of it, a fact hidden, old cells behind 'Below'. -/
import Derived.Test.YtdennnlfjkphlaaRows
import Derived.WalkKit
import Derived.WalkSpells
import Derived.WalkLawsBesides
import Derived.Deep.QuietTactic
import Derived.BigQuiet
import Derived.Handy
import Derived.Great.BuildSlice
import Derived.Deep.WholeRow
import Derived.Laws.BitsAllLaws
import Derived.OwnWalk
import Derived.Lib.Builder
import Derived.Lib.SmallJoins
import Derived.Deep.RegionHeld3
import Derived.Deep.AppendLies
import Derived.Laws.MakeOwn
import Derived.Lib.Strings
import Derived.Laws.Tables
import Derived.Laws.CopyOwn
import Derived.Laws.CopyRow
namespace Go.Proofs.Ytdennnlfjkphlaa
open Go.RowKit

theorem hide {p : Prop} (h : p) : Hid p := h

/-- Of the world that a walk stands in only 'F' is kept. -/
theorem wp_forget {P : Program} {c : Code} {Q : Exit → Act → World → Prop} {a : Act} {W0 : World} (F : World → Prop) (h : F W0) (H : ∀ W, F W → Code.wp P c Q a W) : Code.wp P c Q a W0 := H _ h

theorem bcell {W w1 : World} (hb : Below W.heap.size W w1) : (∀ b o, b < W.heap.size → w1.cell? ⟨b, o, none⟩ = W.cell? ⟨b, o, none⟩) ∧ (∀ b o, b < W.heap.size → w1.frozen? ⟨b, o, none⟩ = W.frozen? ⟨b, o, none⟩) :=
  ⟨fun b o h => hb.cell (p := ⟨b, o, none⟩) h, fun b o h => hb.frozen (p := ⟨b, o, none⟩) h⟩

theorem ret_int {k : IntKind} {a b : Int} (h : a = b) : Ending.returned (.int k a) = .returned (.int k b) := by rw [h]
theorem ret_bool {a b : Bool} (h : a = b) : Ending.returned (.bool a) = .returned (.bool b) := by rw [h]

theorem below_drewN' {B : Nat} {a w : World} (h : Below B a w) (n : Nat) : Below B a (w.drewN n) := ⟨h.os, h.tape, h.output, h.size, h.block⟩

/-- 'Calls.quiet_of_same', in a world that has drawn already. -/
theorem quiet_same {P : Program} {f : FuncId} {args : Array Value} {w : World} {a n : Nat} {v : Value}
    (h : Calls P f args (w.drewN (a + n)) fun e w' => e = .returned v ∧ w' = w.drewN (a + n)) : Calls P f args (w.drewN (a + n)) fun e w'' => e = .returned v ∧ ∃ m, w'' = w.drewN (a + m) :=
  h.mono fun _ _ ⟨he, hm⟩ => ⟨he, n, hm⟩
theorem quiet_draws {P : Program} {f : FuncId} {args : Array Value} {w : World} {a n : Nat} {v : Value}
    (h : Calls P f args (w.drewN (a + n)) fun e w' => e = .returned v ∧ ∃ m, w' = (w.drewN (a + n)).drewN m) : Calls P f args (w.drewN (a + n)) fun e w'' => e = .returned v ∧ ∃ m, w'' = w.drewN (a + m) :=
  h.mono fun _ _ ⟨he, m, hm⟩ => ⟨he, n + m, by rw [hm, World.drewN_drewN, Nat.add_assoc]⟩

/-- 'same(nil, f)'. -/
theorem same_nil (f : Int) (w : World) :
    Calls Try.prog 11 #[.nilIface, .int .i64 f] w fun e w' => e = .returned (.bool (f == 0)) ∧ w' = w := by
  go_enter Try.func11, Try.ntmps11
  go_wp2
  go_ret
  exact ⟨rfl, rfl⟩

theorem assert_errno (n : Int) (w : World) : (Instr.typeAssert (.iface 98 (.int .i64 n)) 25 98 true).run Try.prog w = .ok (.tuple #[.int .i64 n, .bool true]) w := by kernel_rfl

/-- 'same(err, f)' at an error of the project's own. -/
theorem same_errno (n f : Int) (w : World) :
    Calls Try.prog 11 #[.iface 98 (.int .i64 n), .int .i64 f] w fun e w' => e = .returned (.bool (decide (0 < f) && n == f)) ∧ w' = w := by
  have ta := assert_errno n
  by_cases h : 0 < f
  · go_enter Try.func11, Try.ntmps11
    go_wp2
    go_ret
    exact ⟨by simp [h], rfl⟩
  · have hd : decide (0 < f) = false := by simpa using h
    rw [hd]
    go_enter Try.func11, Try.ntmps11
    go_wp2
    go_ret
    exact ⟨rfl, rfl⟩
end Go.Proofs.Ytdennnlfjkphlaa

/- Instructions and calls, as values and cells; the small functions of package bpf. -/
namespace Go.Proofs.Ytdennnlfjkphlaa
open Go.RowKit

/-- An instruction. -/
structure IN where
  op : Int
  jt : Int
  jf : Int
  k : Nat
def insV (x : IN) : Value := .agg #[.int .i64 x.op, .int .i64 x.jt, .int .i64 x.jf, .int .u32 x.k]
structure InOk (x : IN) : Prop where
  op1 : -9223372036854775808 ≤ x.op
  op2 : x.op ≤ 9223372036854775807
  jt1 : -9223372036854775808 ≤ x.jt
  jt2 : x.jt ≤ 9223372036854775807
  jf1 : -9223372036854775808 ≤ x.jf
  jf2 : x.jf ≤ 9223372036854775807
  k2 : x.k < 4294967296
/-- A call. -/
structure CL where
  arch : Nat
  nr : Nat
  a0 : Nat
  a1 : Nat
  a2 : Nat
  a3 : Nat
def callV (c : CL) : Value := .agg #[.int .u32 c.arch, .int .u32 c.nr, .int .u64 c.a0, .int .u64 c.a1, .int .u64 c.a2, .int .u64 c.a3]
structure ClOk (c : CL) : Prop where
  arch : c.arch < 4294967296
  nr : c.nr < 4294967296
  a0 : c.a0 < 18446744073709551616
  a1 : c.a1 < 18446744073709551616
  a2 : c.a2 < 18446744073709551616
  a3 : c.a3 < 18446744073709551616

def placeB (k : Nat) : Bool := decide (k < 40) && decide (k % 4 = 0)
def skipB (n : Int) : Bool := decide (0 ≤ n) && decide (n ≤ 255)
def branchB (op : Int) : Bool := decide (4 ≤ op) && decide (op ≤ 7)

theorem isPlace_any (k : Nat) (hk : k < 4294967296) (w : World) : Calls Try.prog 64 #[.int .u32 k] w fun e w' => e = .returned (.bool (placeB k)) ∧ w' = w := by
  go_enter Try.func64, Try.ntmps64
  go_wp2
  all_goals
    go_ret
    exact ⟨ret_bool (by unfold placeB; rw [Bool.eq_iff_iff]; simp; try omega), rfl⟩
theorem isSkip_any (n : Int) (w : World) : Calls Try.prog 75 #[.int .i64 n] w fun e w' => e = .returned (.bool (skipB n)) ∧ w' = w := by
  go_enter Try.func75, Try.ntmps75
  go_wp2
  all_goals
    go_ret
    exact ⟨ret_bool (by unfold skipB; rw [Bool.eq_iff_iff]; simp; try omega), rfl⟩
theorem isBranch_any (n : Int) (w : World) : Calls Try.prog 76 #[.int .i64 n] w fun e w' => e = .returned (.bool (branchB n)) ∧ w' = w := by
  go_enter Try.func76, Try.ntmps76
  go_wp2
  all_goals
    go_ret
    exact ⟨ret_bool (by unfold branchB; rw [Bool.eq_iff_iff]; simp; try omega), rfl⟩

/-- Does a branch hold? -/
def holdsB (x : IN) (y : Nat) : Bool := if x.op == 4 then (y : Int) == (x.k : Int) else if x.op == 5 then decide (x.k < y) else if x.op == 6 then decide (x.k ≤ y) else ((y &&& x.k : Nat) : Int) != 0
theorem box_below (w : World) (o : Obj) : Below w.heap.size w (w.alloc o) := (Below.refl _ _).alloc (Nat.le_refl _) _
theorem holds_any (x : IN) (hx : InOk x) (y : Nat) (hy : y < 4294967296) (w : World) : Calls Try.prog 74 #[insV x, .int .u32 y] w fun e w' => e = .returned (.bool (holdsB x y)) ∧ Below w.heap.size w w' := by
  obtain ⟨op, jt, jf, k⟩ := x
  have hb := u32_and_nat y k hy hx.k2
  unfold insV
  simp only at hb ⊢
  go_enter Try.func74, Try.ntmps74
  go_wp2
  all_goals
    go_ret
    exact ⟨ret_bool (by simp [holdsB, *]), box_below _ _⟩

theorem below_next {w w1 w2 : World} (a : Below w.heap.size w w1) (b : Below w1.heap.size w1 w2) : Below w.heap.size w w2 := a.trans (b.mono a.size)
/-- How many a jump or a branch passes over. -/
def skipI (x : IN) (y : Nat) : Int := if x.op == 3 then (x.k : Int) else if holdsB x y then x.jt else x.jf
theorem skip_any (x : IN) (hx : InOk x) (y : Nat) (hy : y < 4294967296) (w : World) : Calls Try.prog 67 #[insV x, .int .u32 y] w fun e w' => e = .returned (.int .i64 (skipI x y)) ∧ Below w.heap.size w w' := by
  obtain ⟨op, jt, jf, k⟩ := x
  have hk : k < 4294967296 := hx.k2
  have HH := holds_any ⟨op, jt, jf, k⟩ hx y hy
  have HS := hide (show skipI ⟨op, jt, jf, k⟩ y = if op == 3 then (k : Int) else if holdsB ⟨op, jt, jf, k⟩ y then jt else jf from rfl)
  obtain ⟨z, hz⟩ : ∃ z, z = holdsB ⟨op, jt, jf, k⟩ y := ⟨_, rfl⟩
  rw [← hz] at HH HS
  clear hz hx
  unfold insV at HH ⊢
  simp only at HH ⊢
  go_enter Try.func67, Try.ntmps67
  go_wp2_with (go_at_call 74; refine (HH _).mono ?_; rintro e w' ⟨rfl, hb⟩; have hbc := bcell hb)
  all_goals
    go_ret
    refine ⟨ret_int ?_, ?_⟩
  all_goals first
    | (rw [HS.out]; simp [*])
    | exact box_below _ _
    | exact below_next (box_below _ _) hb

/-- A word of the record. -/
def wordN (c : CL) : Nat → Nat
  | 0 => c.nr
  | 1 => c.arch
  | 2 => c.a0 % 4294967296
  | 3 => c.a0 / 4294967296
  | 4 => c.a1 % 4294967296
  | 5 => c.a1 / 4294967296
  | 6 => c.a2 % 4294967296
  | 7 => c.a2 / 4294967296
  | 8 => c.a3 % 4294967296
  | 9 => c.a3 / 4294967296
  | _ => 0
theorem word_no (c : CL) (k : Nat) (hk : k < 4294967296) (hp : placeB k = false) (w : World) : Calls Try.prog 43 #[callV c, .int .u32 k] w fun e w' => e = .returned (.tuple #[.int .u32 0, .iface 98 (.int .i64 1)]) ∧ Below w.heap.size w w' := by
  have HP := fun w => isPlace_any k hk w
  rw [hp] at HP
  unfold callV
  go_enter Try.func43, Try.ntmps43
  go_wp2_with (go_at_call 64; refine (HP _).mono ?_; rintro e w' ⟨rfl, rfl⟩)
  go_ret2
  exact ⟨rfl, box_below _ _⟩
theorem place_cases {k : Nat} (h : placeB k = true) : k = 0 ∨ k = 4 ∨ k = 8 ∨ k = 12 ∨ k = 16 ∨ k = 20 ∨ k = 24 ∨ k = 28 ∨ k = 32 ∨ k = 36 := by
  unfold placeB at h
  rw [Bool.and_eq_true, decide_eq_true_eq, decide_eq_true_eq] at h
  omega
theorem word_ok (c : CL) (hc : ClOk c) (k : Nat) (hp : placeB k = true) (w : World) : Calls Try.prog 43 #[callV c, .int .u32 k] w fun e w' => e = .returned (.tuple #[.int .u32 (wordN c (k / 4)), .nilIface]) ∧ Below w.heap.size w w' := by
  have HP := fun w => isPlace_any k (by rcases place_cases hp with h | h | h | h | h | h | h | h | h | h <;> omega) w
  rw [hp] at HP
  obtain ⟨arch, nr, a0, a1, a2, a3⟩ := c
  obtain ⟨h1, h2, h3, h4, h5, h6⟩ := hc
  simp only at h1 h2 h3 h4 h5 h6
  unfold callV
  simp only
  rcases place_cases hp with rfl | rfl | rfl | rfl | rfl | rfl | rfl | rfl | rfl | rfl
  all_goals
    clear hp
    go_enter Try.func43, Try.ntmps43
    go_wp2_with (go_at_call 64; refine (HP _).mono ?_; rintro e w' ⟨rfl, rfl⟩)
    go_ret2
    refine ⟨?_, box_below _ _⟩
    first | rfl | (simp only [wordN]; congr 4; omega)
end Go.Proofs.Ytdennnlfjkphlaa

/- checkInsn, Check. -/
namespace Go.Proofs.Ytdennnlfjkphlaa
open Go.RowKit

/-- What is wrong with an instruction that has so many behind it: D2. -/
def faultI (x : IN) (behind : Nat) : Nat :=
  if decide (x.op < 1) || decide (8 < x.op) || !skipB x.jt || !skipB x.jf then 1
  else if !branchB x.op && (x.jt != 0 || x.jf != 0) then 3
  else if (x.op == 1 && !placeB x.k) || (x.op == 3 && decide (behind ≤ x.k)) || (branchB x.op && (decide ((behind : Int) ≤ x.jt) || decide ((behind : Int) ≤ x.jf))) then 1 else 0
/-- An error's number, as a value. -/
def errV (f : Nat) : Value := if f = 0 then .nilIface else .iface 98 (.int .i64 f)

theorem checkInsn_a (op jt jf : Int) (k : Nat) (m : Nat) (w : World) (h : op < 1 ∨ 8 < op ∨ skipB jt = false ∨ skipB jf = false) : Calls Try.prog 68 #[insV ⟨op, jt, jf, k⟩, .int .i64 m] w fun e w' => e = .returned (errV (faultI ⟨op, jt, jf, k⟩ m)) ∧ Below w.heap.size w w' := by
  have HF := hide (show faultI ⟨op, jt, jf, k⟩ m = 1 by
    unfold faultI
    rw [if_pos]
    rcases h with h | h | h | h <;> simp [h])
  unfold insV
  simp only
  by_cases d1 : op < 1
  · go_enter Try.func68, Try.ntmps68
    go_wp2
    go_ret
    exact ⟨by rw [HF.out]; rfl, box_below _ _⟩
  by_cases d2 : 8 < op
  · go_enter Try.func68, Try.ntmps68
    go_wp2
    go_ret
    exact ⟨by rw [HF.out]; rfl, box_below _ _⟩
  cases e1 : skipB jt with
  | false =>
    go_enter Try.func68, Try.ntmps68
    go_wp2_with (go_at_call 75; refine (isSkip_any _ _).mono ?_; rw [e1]; rintro e w' ⟨rfl, rfl⟩)
    go_ret
    exact ⟨by rw [HF.out]; rfl, box_below _ _⟩
  | true =>
    have e2 : skipB jf = false := by simp_all
    go_enter Try.func68, Try.ntmps68
    go_wp2_with (go_at_call 75; refine (isSkip_any _ _).mono ?_; (first | rw [e1] | rw [e2]); rintro e w' ⟨rfl, rfl⟩)
    go_ret
    exact ⟨by rw [HF.out]; rfl, box_below _ _⟩

theorem checkInsn_b (op jt jf : Int) (k : Nat) (m : Nat) (w : World) (d1 : ¬ op < 1) (d2 : ¬ 8 < op) (e1 : skipB jt = true) (e2 : skipB jf = true) (e3 : branchB op = false) (h : jt ≠ 0 ∨ jf ≠ 0) : Calls Try.prog 68 #[insV ⟨op, jt, jf, k⟩, .int .i64 m] w fun e w' => e = .returned (errV (faultI ⟨op, jt, jf, k⟩ m)) ∧ Below w.heap.size w w' := by
  have HF := hide (show faultI ⟨op, jt, jf, k⟩ m = 3 by
    unfold faultI
    rw [if_neg (by simp [d1, d2, e1, e2]), if_pos]
    rcases h with h | h <;> simp [h, e3])
  unfold insV
  simp only
  by_cases h0 : jt = 0
  · subst h0
    have h1 : jf ≠ 0 := by simpa using h
    go_enter Try.func68, Try.ntmps68
    go_wp2_with (first
      | (go_at_call 76; refine (isBranch_any _ _).mono ?_; rw [e3]; rintro e w' ⟨rfl, rfl⟩)
      | (go_at_call 75; refine (isSkip_any _ _).mono ?_; (first | rw [e1] | rw [e2]); rintro e w' ⟨rfl, rfl⟩))
    go_ret
    exact ⟨by rw [HF.out]; rfl, box_below _ _⟩
  · go_enter Try.func68, Try.ntmps68
    go_wp2_with (first
      | (go_at_call 76; refine (isBranch_any _ _).mono ?_; rw [e3]; rintro e w' ⟨rfl, rfl⟩)
      | (go_at_call 75; refine (isSkip_any _ _).mono ?_; (first | rw [e1] | rw [e2]); rintro e w' ⟨rfl, rfl⟩))
    go_ret
    exact ⟨by rw [HF.out]; rfl, box_below _ _⟩

theorem checkInsn_c (op : Int) (k : Nat) (hk : k < 4294967296) (m : Nat) (hm : m ≤ 4096) (w : World) (h : op = 1 ∨ op = 2 ∨ op = 3 ∨ op = 8) : Calls Try.prog 68 #[insV ⟨op, 0, 0, k⟩, .int .i64 m] w fun e w' => e = .returned (errV (faultI ⟨op, 0, 0, k⟩ m)) ∧ Below w.heap.size w w' := by
  have e1 : skipB 0 = true := rfl
  have e2 : skipB 0 = true := rfl
  unfold insV
  simp only
  rcases h with rfl | rfl | rfl | rfl
  · have e3 : branchB 1 = false := rfl
    cases e4 : placeB k
    · have HF := hide (show faultI ⟨1, 0, 0, k⟩ m = 1 by unfold faultI; rw [if_neg (by simp [e1]), if_neg (by simp [e3]), if_pos (by simp [e4])])
      go_enter Try.func68, Try.ntmps68
      go_wp2_with (first
        | (go_at_call 64; refine (isPlace_any _ hk _).mono ?_; rw [e4]; rintro e w' ⟨rfl, rfl⟩)
        | (go_at_call 76; refine (isBranch_any _ _).mono ?_; rw [e3]; rintro e w' ⟨rfl, rfl⟩)
        | (go_at_call 75; refine (isSkip_any _ _).mono ?_; (first | rw [e1] | rw [e2]); rintro e w' ⟨rfl, rfl⟩))
      go_ret
      exact ⟨by rw [HF.out]; rfl, box_below _ _⟩
    · have HF := hide (show faultI ⟨1, 0, 0, k⟩ m = 0 by unfold faultI; rw [if_neg (by simp [e1]), if_neg (by simp [e3]), if_neg (by simp [e4, e3])])
      go_enter Try.func68, Try.ntmps68
      go_wp2_with (first
        | (go_at_call 64; refine (isPlace_any _ hk _).mono ?_; rw [e4]; rintro e w' ⟨rfl, rfl⟩)
        | (go_at_call 76; refine (isBranch_any _ _).mono ?_; rw [e3]; rintro e w' ⟨rfl, rfl⟩)
        | (go_at_call 75; refine (isSkip_any _ _).mono ?_; (first | rw [e1] | rw [e2]); rintro e w' ⟨rfl, rfl⟩))
      go_ret
      exact ⟨by rw [HF.out]; rfl, box_below _ _⟩
  · have e3 : branchB 2 = false := rfl
    have e4 : placeB k = placeB k := rfl
    have HF := hide (show faultI ⟨2, 0, 0, k⟩ m = 0 by unfold faultI; rw [if_neg (by simp [e1]), if_neg (by simp [e3]), if_neg (by simp [e3])])
    go_enter Try.func68, Try.ntmps68
    go_wp2_with (first
      | (go_at_call 64; refine (isPlace_any _ hk _).mono ?_; rw [e4]; rintro e w' ⟨rfl, rfl⟩)
      | (go_at_call 76; refine (isBranch_any _ _).mono ?_; rw [e3]; rintro e w' ⟨rfl, rfl⟩)
      | (go_at_call 75; refine (isSkip_any _ _).mono ?_; (first | rw [e1] | rw [e2]); rintro e w' ⟨rfl, rfl⟩))
    go_ret
    exact ⟨by rw [HF.out]; rfl, box_below _ _⟩
  · have e3 : branchB 3 = false := rfl
    have e4 : placeB k = placeB k := rfl
    by_cases h4 : m ≤ k
    · have HF := hide (show faultI ⟨3, 0, 0, k⟩ m = 1 by unfold faultI; rw [if_neg (by simp [e1]), if_neg (by simp [e3]), if_pos (by simp [h4])])
      go_enter Try.func68, Try.ntmps68
      go_wp2_with (first
        | (go_at_call 64; refine (isPlace_any _ hk _).mono ?_; rw [e4]; rintro e w' ⟨rfl, rfl⟩)
        | (go_at_call 76; refine (isBranch_any _ _).mono ?_; rw [e3]; rintro e w' ⟨rfl, rfl⟩)
        | (go_at_call 75; refine (isSkip_any _ _).mono ?_; (first | rw [e1] | rw [e2]); rintro e w' ⟨rfl, rfl⟩))
      go_ret
      exact ⟨by rw [HF.out]; rfl, box_below _ _⟩
    · have HF := hide (show faultI ⟨3, 0, 0, k⟩ m = 0 by unfold faultI; rw [if_neg (by simp [e1]), if_neg (by simp [e3]), if_neg (by simp [h4, e3])])
      go_enter Try.func68, Try.ntmps68
      go_wp2_with (first
        | (go_at_call 64; refine (isPlace_any _ hk _).mono ?_; rw [e4]; rintro e w' ⟨rfl, rfl⟩)
        | (go_at_call 76; refine (isBranch_any _ _).mono ?_; rw [e3]; rintro e w' ⟨rfl, rfl⟩)
        | (go_at_call 75; refine (isSkip_any _ _).mono ?_; (first | rw [e1] | rw [e2]); rintro e w' ⟨rfl, rfl⟩))
      go_ret
      exact ⟨by rw [HF.out]; rfl, box_below _ _⟩
  · have e3 : branchB 8 = false := rfl
    have e4 : placeB k = placeB k := rfl
    have HF := hide (show faultI ⟨8, 0, 0, k⟩ m = 0 by unfold faultI; rw [if_neg (by simp [e1]), if_neg (by simp [e3]), if_neg (by simp [e3])])
    go_enter Try.func68, Try.ntmps68
    go_wp2_with (first
      | (go_at_call 64; refine (isPlace_any _ hk _).mono ?_; rw [e4]; rintro e w' ⟨rfl, rfl⟩)
      | (go_at_call 76; refine (isBranch_any _ _).mono ?_; rw [e3]; rintro e w' ⟨rfl, rfl⟩)
      | (go_at_call 75; refine (isSkip_any _ _).mono ?_; (first | rw [e1] | rw [e2]); rintro e w' ⟨rfl, rfl⟩))
    go_ret
    exact ⟨by rw [HF.out]; rfl, box_below _ _⟩

theorem checkInsn_d (op jt jf : Int) (k : Nat) (m : Nat) (w : World) (h4 : 4 ≤ op) (h7 : op ≤ 7) (e1 : skipB jt = true) (e2 : skipB jf = true) : Calls Try.prog 68 #[insV ⟨op, jt, jf, k⟩, .int .i64 m] w fun e w' => e = .returned (errV (faultI ⟨op, jt, jf, k⟩ m)) ∧ Below w.heap.size w w' := by
  have e3 : branchB op = true := by unfold branchB; simp [h4, h7]
  have d1 : (op == 1) = false := by rw [beq_eq_false_iff_ne]; omega
  have d3 : (op == 3) = false := by rw [beq_eq_false_iff_ne]; omega
  have f1 : ¬ op < 1 := by omega
  have f2 : ¬ 8 < op := by omega
  have HG := hide (show faultI ⟨op, jt, jf, k⟩ m = if decide ((m : Int) ≤ jt) || decide ((m : Int) ≤ jf) then 1 else 0 by
    unfold faultI
    rw [if_neg (by simp [f1, f2, e1, e2]), if_neg (by simp [e3])]
    simp only [d1, d3, e3, Bool.false_and, Bool.true_and, Bool.false_or])
  clear h4 h7
  unfold insV
  simp only
  by_cases c1 : (m : Int) ≤ jt
  · have HF := hide (show faultI ⟨op, jt, jf, k⟩ m = 1 by rw [HG.out, if_pos (by simp [c1])])
    go_enter Try.func68, Try.ntmps68
    go_wp2_with (first
      | (go_at_call 76; refine (isBranch_any _ _).mono ?_; rw [e3]; rintro e w' ⟨rfl, rfl⟩)
      | (go_at_call 75; refine (isSkip_any _ _).mono ?_; (first | rw [e1] | rw [e2]); rintro e w' ⟨rfl, rfl⟩))
    go_ret
    exact ⟨by rw [HF.out]; rfl, box_below _ _⟩
  by_cases c2 : (m : Int) ≤ jf
  · have HF := hide (show faultI ⟨op, jt, jf, k⟩ m = 1 by rw [HG.out, if_pos (by simp [c2])])
    go_enter Try.func68, Try.ntmps68
    go_wp2_with (first
      | (go_at_call 76; refine (isBranch_any _ _).mono ?_; rw [e3]; rintro e w' ⟨rfl, rfl⟩)
      | (go_at_call 75; refine (isSkip_any _ _).mono ?_; (first | rw [e1] | rw [e2]); rintro e w' ⟨rfl, rfl⟩))
    go_ret
    exact ⟨by rw [HF.out]; rfl, box_below _ _⟩
  · have HF := hide (show faultI ⟨op, jt, jf, k⟩ m = 0 by rw [HG.out, if_neg (by simp [c1, c2])])
    go_enter Try.func68, Try.ntmps68
    go_wp2_with (first
      | (go_at_call 76; refine (isBranch_any _ _).mono ?_; rw [e3]; rintro e w' ⟨rfl, rfl⟩)
      | (go_at_call 75; refine (isSkip_any _ _).mono ?_; (first | rw [e1] | rw [e2]); rintro e w' ⟨rfl, rfl⟩))
    go_ret
    exact ⟨by rw [HF.out]; rfl, box_below _ _⟩

theorem checkInsn_any (x : IN) (hx : InOk x) (m : Nat) (hm : m ≤ 4096) (w : World) : Calls Try.prog 68 #[insV x, .int .i64 m] w fun e w' => e = .returned (errV (faultI x m)) ∧ Below w.heap.size w w' := by
  obtain ⟨op, jt, jf, k⟩ := x
  have hk : k < 4294967296 := hx.k2
  by_cases h : op < 1 ∨ 8 < op ∨ skipB jt = false ∨ skipB jf = false
  · exact checkInsn_a op jt jf k m w h
  rw [not_or, not_or, not_or, Bool.not_eq_false, Bool.not_eq_false] at h
  obtain ⟨d1, d2, e1, e2⟩ := h
  cases e3 : branchB op with
  | true =>
    have e5 := e3
    unfold branchB at e5
    rw [Bool.and_eq_true, decide_eq_true_eq, decide_eq_true_eq] at e5
    exact checkInsn_d op jt jf k m w e5.1 e5.2 e1 e2
  | false =>
    by_cases h0 : jt ≠ 0 ∨ jf ≠ 0
    · exact checkInsn_b op jt jf k m w d1 d2 e1 e2 e3 h0
    · obtain ⟨rfl, rfl⟩ : jt = 0 ∧ jf = 0 := by omega
      unfold branchB at e3
      rw [Bool.and_eq_false_iff, decide_eq_false_iff_not, decide_eq_false_iff_not] at e3
      exact checkInsn_c op k hk m hm w (by omega)
end Go.Proofs.Ytdennnlfjkphlaa

/- Programs: Check, Run. -/
namespace Go.Proofs.Ytdennnlfjkphlaa
open Go.RowKit

/-- An instruction's cells lie from o on. -/
structure InsAt (W : World) (b o : Nat) (x : IN) : Prop where
  k0 : W.cell? ⟨b, o, none⟩ = some (.int .i64 x.op)
  k1 : W.cell? ⟨b, o + 1, none⟩ = some (.int .i64 x.jt)
  k2 : W.cell? ⟨b, o + 2, none⟩ = some (.int .i64 x.jf)
  k3 : W.cell? ⟨b, o + 3, none⟩ = some (.int .u32 x.k)
  ok : InOk x
theorem InsAt.on {W V : World} {b o : Nat} {x : IN} (h : InsAt W b o x) (hc : ∀ j, V.cell? ⟨b, j, none⟩ = W.cell? ⟨b, j, none⟩) : InsAt V b o x :=
  ⟨(hc _).trans h.k0, (hc _).trans h.k1, (hc _).trans h.k2, (hc _).trans h.k3, h.ok⟩
/-- A slice of n instructions in a world. -/
structure IsProg (oa : Option Addr) (n : Nat) (L : Nat → IN) (W : World) : Prop where
  lie : 0 < n → ∃ b off, oa = some ⟨b, off, none⟩ ∧ b < W.heap.size ∧ ∀ i, i < n → InsAt W b (off + i * 4) (L i)
theorem IsProg.on {oa : Option Addr} {n : Nat} {L : Nat → IN} {W V : World} (h : IsProg oa n L W) (hb : Below W.heap.size W V) : IsProg oa n L V :=
  ⟨fun h0 => by
    obtain ⟨b, off, h1, h2, h3⟩ := h.lie h0
    exact ⟨b, off, h1, Nat.lt_of_lt_of_le h2 hb.size, fun i hi => (h3 i hi).on fun j => (bcell hb).1 b j h2⟩⟩

/-- The first fault of the first i. -/
def faultTo (n : Nat) (L : Nat → IN) : Nat → Nat
  | 0 => 0
  | i + 1 => if faultTo n L i = 0 then faultI (L i) (n - 1 - i) else faultTo n L i
/-- What is wrong with a program: D2. -/
def checkR (n : Nat) (L : Nat → IN) : Nat :=
  if n = 0 ∨ 4096 < n then 2 else if faultTo n L n = 0 then (if (L (n - 1)).op = 8 then 0 else 3) else faultTo n L n
theorem faultTo_stays {n : Nat} {L : Nat → IN} {i : Nat} (h : faultTo n L i ≠ 0) : ∀ j, i ≤ j → faultTo n L j = faultTo n L i
  | 0, hj => by rw [show i = 0 by omega]
  | j + 1, hj => by
    by_cases he : i = j + 1
    · rw [he]
    · rw [faultTo, faultTo_stays h j (by omega), if_neg h]
theorem faultTo_each {n : Nat} {L : Nat → IN} {j : Nat} (h : faultTo n L j = 0) : ∀ i, i < j → faultI (L i) (n - 1 - i) = 0 := fun i hi => by
  have h1 : faultTo n L (i + 1) = 0 := Classical.byContradiction fun hc => hc (by rw [← faultTo_stays hc j (by omega)]; exact h)
  have h0 : faultTo n L i = 0 := Classical.byContradiction fun hc => hc (by rw [← faultTo_stays hc j (by omega)]; exact h)
  rw [faultTo, if_pos h0] at h1
  exact h1

theorem errV_zero : errV 0 = .nilIface := rfl
theorem errV_pos {f : Nat} (h : f ≠ 0) : errV f = .iface 98 (.int .i64 f) := if_neg h

theorem check_any (oa : Option Addr) (n cap : Nat) (hn : n ≤ 9223372036854775807) (L : Nat → IN) (w : World) (h : IsProg oa n L w) :
    Calls Try.prog 48 #[.slice oa n cap] w fun e w' => e = .returned (errV (checkR n L)) ∧ Below w.heap.size w w' := by
  by_cases h0 : n = 0
  · subst h0
    go_enter Try.func48, Try.ntmps48
    go_wp2
    go_ret
    exact ⟨rfl, Below.refl _ _⟩
  by_cases h1 : 4096 < n
  · have HF := hide (show checkR n L = 2 from if_pos (.inr h1))
    go_enter Try.func48, Try.ntmps48
    go_wp2
    go_ret
    exact ⟨by rw [HF.out]; rfl, Below.refl _ _⟩
  have HR := hide (show checkR n L = if faultTo n L n = 0 then (if (L (n - 1)).op = 8 then 0 else 3) else faultTo n L n from if_neg (by omega))
  have d0 : ((n : Int) == 0) = false := by rw [beq_eq_false_iff_ne]; omega
  have d1 : decide ((4096 : Int) < (n : Int)) = false := by simp; omega
  obtain ⟨b, off, rfl, hb, hA0⟩ := h.lie (by omega)
  have HA := hide hA0
  clear h hA0
  go_enter Try.func48, Try.ntmps48
  go_wp2
  go_loopw [16] (fun I w' => ∃ i : Nat, i ≤ n ∧ I = .int .i64 i ∧ Hid (Below w.heap.size w w') ∧ Hid (faultTo n L i = 0)) (fun I _ => n - (intOf I).toNat)
  case atStart => exact ⟨0, by omega, rfl, hide (Below.refl _ _), hide rfl⟩
  case round =>
    obtain ⟨i, hi, rfl, HB, HG⟩ := hrel
    by_cases hlt : i < n
    · have hI := (HA.out i hlt).on fun j => (bcell HB.out).1 b j hb
      have HQ := hide (show faultTo n L (i + 1) = faultI (L i) (n - 1 - i) by rw [faultTo, if_pos HG.out])
      have hok := hI.ok
      obtain ⟨x, hx⟩ : ∃ x, x = L i := ⟨_, rfl⟩
      rw [← hx] at hI hok HQ
      have HC := checkInsn_any x hok (n - 1 - i) (by omega)
      obtain ⟨f, hf⟩ : ∃ f, f = faultI x (n - 1 - i) := ⟨_, rfl⟩
      rw [← hf] at HC HQ
      have hm : ((n - 1 - i : Nat) : Int) = (n : Int) - 1 - i := by omega
      rw [hm] at HC
      obtain ⟨c0, c1, c2, c3, _⟩ := hI
      clear hx hok hf hm
      obtain ⟨op, jt, jf, k⟩ := x
      unfold insV at HC
      simp only at c0 c1 c2 c3 HC
      by_cases hz : f = 0
      · subst hz
        rw [errV_zero] at HC
        go_wp2_with (go_at_call 68; refine (HC _).mono ?_; rintro e w1 ⟨rfl, hb1⟩)
        go_round
        case rel => exact ⟨i + 1, by omega, by go_num, hide (below_next HB.out hb1), HQ⟩
        case measure => simp [intOf]; omega
      · rw [errV_pos hz] at HC
        have HE := hide (show checkR n L = f by
          have h1 : faultTo n L n = f := (faultTo_stays (by rw [HQ.out]; exact hz) n (by omega)).trans HQ.out
          rw [HR.out, if_neg (by rw [h1]; exact hz), h1])
        go_wp2_with (go_at_call 68; refine (HC _).mono ?_; rintro e w1 ⟨rfl, hb1⟩)
        go_ret
        exact ⟨by rw [HE.out, errV_pos hz]; rfl, below_next HB.out hb1⟩
    · obtain rfl : i = n := by omega
      have hI := (HA.out (i - 1) (by omega)).on fun j => (bcell HB.out).1 b j hb
      have c0 := hI.k0
      have HE := hide (show checkR i L = if (L (i - 1)).op = 8 then 0 else 3 by rw [HR.out, if_pos HG.out])
      obtain ⟨op, hop⟩ : ∃ op, op = (L (i - 1)).op := ⟨_, rfl⟩
      rw [← hop] at c0 HE
      clear hop hI
      obtain ⟨j, rfl⟩ : ∃ j, i = j + 1 := ⟨i - 1, by omega⟩
      rw [Nat.add_sub_cancel] at c0
      by_cases h8 : op = 8
      · subst h8
        go_wp2
        go_ret
        exact ⟨by rw [HE.out]; rfl, HB.out⟩
      · have d8 : (op != 8) = true := by rw [bne_iff_ne]; exact h8
        go_wp2
        go_ret
        exact ⟨by rw [HE.out, if_neg h8]; rfl, HB.out⟩
end Go.Proofs.Ytdennnlfjkphlaa

/- appendInsn, Bytes. -/
namespace Go.Proofs.Ytdennnlfjkphlaa
open Go.RowKit

def u8s (l : List Nat) : List Value := l.map fun x : Nat => .int .u8 (x : Int)
theorem u8s_append (l q : List Nat) : u8s (l ++ q) = u8s l ++ u8s q := List.map_append
theorem u8s_len (l : List Nat) : (u8s l).length = l.length := List.length_map _
/-- A number's four bytes, the lowest first. -/
def kb (k : Nat) : List Nat := [k % 256, k / 256 % 256, k / 65536 % 256, k / 16777216 % 256]
/-- An instruction's bytes: D3. -/
def insB (x : IN) : List Nat := [x.op.toNat, 0, x.jt.toNat, x.jf.toNat] ++ kb x.k

theorem info_byte : ∃ i, Try.prog.info? 5 = some i ∧ i.zero = some (.int .u8 0) ∧ i.size = 1 ∧ i.bytes = 1 := by
  have hz : (Try.prog.info? 5).map (·.zero) = some (some (.int .u8 0)) := by kernel_rfl
  have hs : (Try.prog.info? 5).map (·.size) = some 1 := by kernel_rfl
  have hb : (Try.prog.info? 5).map (·.bytes) = some 1 := by kernel_rfl
  cases hq : Try.prog.info? 5 with
  | none => rw [hq] at hs; simp at hs
  | some i =>
    rw [hq] at hz hs hb
    simp at hz hs hb
    exact ⟨i, rfl, hz, hs, hb⟩

/-- Bytes appended to a row of the call's own. -/
theorem wpList_append_u8 {ops : Array Oper} {rest : List Oper} {o : Oper} {a : Act} {w : World} {Q : Exit → Act → World → Prop} (hgd : o.guard = none) (s x : Operand)
    (ho : o.op = .call { callee := .builtin .append, args := #[s, x], argTypes := #[120, 120] })
    (base : Nat) (v : Value) (n : Nat) (l : List Nat) (hs : a.eval s = v) (hown : w.ownsRow base 5 1 v n (u8s l))
    (g m : Nat) (q : List Nat) (arr : Array Value) (hx : a.eval x = .slice (some ⟨g, 0, none⟩) m m) (hg : w.heap[g]? = some (.cells arr 5 (0, 0))) (hq : arr.toList = u8s q) (hm : q.length = m)
    (hn : n ≤ 10000000) (hm2 : m ≤ 1000) (hbase : base ≤ w.heap.size)
    (h : ∀ v' w', w'.ownsRow base 5 1 v' (n + m) (u8s (l ++ q)) → w.grownBy w' v.ownBlock → wpList Try.prog ops Q rest (a.put o.dst v') w') : wpList Try.prog ops Q (o :: rest) a w := by
  obtain ⟨i, hi, hz, hsz, hby⟩ := info_byte
  refine wpList_append_own (P := Try.prog) w hgd s x 120 ho base 5 i _ 1 1 Try.underlying120 hi hz hsz hby rfl (by decide) v n (u8s l) hs hown ⟨g, 0, none⟩ m m (u8s q) hx (by rw [u8s_len, hm, Nat.mul_one]) ?_ ?_ (by simp only [maxLen]; omega) (by omega) hbase ?_
  · intro j u hu
    have hadd : (⟨g, 0, none⟩ : Addr).add j = ⟨g, j, none⟩ := by unfold Addr.add; split <;> simp_all
    rw [hadd, cell_of_row w g j _ _ _ hg, ← hu, ← hq, Array.getElem?_toList]
  · intro u hu
    unfold u8s at hu
    rw [List.mem_map] at hu
    obtain ⟨y, _, rfl⟩ := hu
    rfl
  · intro v' w' h1 h2 _
    rw [← u8s_append] at h1
    exact h v' w' h1 h2

theorem alloc_size (w : World) (o : Obj) : (w.alloc o).heap.size = w.heap.size + 1 := by simp
theorem heap_alloc2 (w : World) (o1 o2 : Obj) : ((w.alloc o1).alloc o2).heap[w.heap.size + 1]? = some o2 := by
  have h := heap_alloc_new (w.alloc o1) o2
  rw [alloc_size] at h
  exact h
theorem heap_alloc_before (w : World) (o1 o2 : Obj) : ((w.alloc o1).alloc o2).heap[w.heap.size]? = some o1 :=
  (heap_alloc_old (w.alloc o1) o2 (h := by rw [alloc_size]; omega)).trans (heap_alloc_new w o1)
/-- A box of another type is no row of bytes. -/
theorem box_apart {W : World} {base g n : Nat} {v : Value} {xs : List Value} {cs : Array Value} (h : W.ownsRow base 5 1 v n xs) (hb : W.heap[g]? = some (.cells cs 78 (0, 0))) : some g ≠ v.ownBlock := fun e => Go.Lib.ownBlock_ne h hb (by decide) e.symm
theorem box_later {w w1 : World} {base n : Nat} {v : Value} {xs : List Value} {cs : Array Value} {o : Obj} (h : w.ownsRow base 5 1 v n xs) (hg : ((w.alloc (.cells cs 78)).alloc o).grownBy w1 v.ownBlock) : w1.heap[w.heap.size]? = some (.cells cs 78 (0, 0)) :=
  (hg.block w.heap.size (by simp; omega) (box_apart (cs := cs) ((h.alloc (.cells cs 78)).alloc o) (heap_alloc_before w (.cells cs 78) o))).trans (heap_alloc_before w (.cells cs 78) o)
theorem box_stays {w w1 : World} {base n g : Nat} {v : Value} {xs : List Value} {cs : Array Value} {o : Obj} (h : w.ownsRow base 5 1 v n xs) (hb : w.heap[g]? = some (.cells cs 78 (0, 0))) (hg : (w.alloc o).grownBy w1 v.ownBlock) : w1.heap[g]? = some (.cells cs 78 (0, 0)) :=
  (hg.block g (by have := (Array.getElem?_eq_some_iff.1 hb).1; simp; omega) (box_apart h hb)).trans ((heap_alloc_old w o (h := (Array.getElem?_eq_some_iff.1 hb).1)).trans hb)
structure Small (x : IN) : Prop where
  o1 : 0 ≤ x.op
  o2 : x.op ≤ 255
  t1 : 0 ≤ x.jt
  t2 : x.jt ≤ 255
  f1 : 0 ≤ x.jf
  f2 : x.jf ≤ 255
  k2 : x.k < 4294967296

theorem kb_take (k i : Nat) (hi : i < 4) : (kb k).take (i + 1) = (kb k).take i ++ [k / 256 ^ i % 256] := by
  match i, hi with
  | 0, _ => simp [kb]
  | 1, _ => simp [kb]
  | 2, _ => simp [kb]
  | 3, _ => simp [kb]

set_option maxRecDepth 20000 in
theorem appendInsn_any (base : Nat) (v : Value) (n : Nat) (l : List Nat) (x : IN) (hx : Small x) (w : World) (hown : w.ownsRow base 5 1 v n (u8s l)) (hbase : base ≤ w.heap.size) (hn : n ≤ 1000000) :
    Calls Try.prog 66 #[v, insV x] w fun e w' => ∃ v', e = .returned v' ∧ w'.ownsRow base 5 1 v' (n + 8) (u8s (l ++ insB x)) ∧ Below base w w' := by
  obtain ⟨op, jt, jf, k⟩ := x
  obtain ⟨o1, o2, t1, t2, f1, f2, k2⟩ := hx
  simp only at o1 o2 t1 t2 f1 f2 k2
  obtain ⟨op', rfl⟩ : ∃ m : Nat, op = m := ⟨op.toNat, by omega⟩
  obtain ⟨jt', rfl⟩ : ∃ m : Nat, jt = m := ⟨jt.toNat, by omega⟩
  obtain ⟨jf', rfl⟩ : ∃ m : Nat, jf = m := ⟨jf.toNat, by omega⟩
  have HO := hide hown
  clear hown
  unfold insV
  simp only
  go_enter Try.func66, Try.ntmps66
  go_wp2_with (at_builtin; (refine wpList_append_u8 rfl _ _ rfl base v n l ?_ ?_ (w.heap.size + 1) 4 [op', 0, jt', jf'] ?_ ?_ ?_ ?_ ?_ ?_ ?_ ?_ ?_); (· rfl); (· exact (HO.out.alloc _).alloc _); (· exact #[.int .u8 op', .int .u8 0, .int .u8 jt', .int .u8 jf']); (· rfl); (· exact heap_alloc2 _ _ _); (· rfl); (· rfl); (· omega); (· omega); (· simp; omega); intro v1 w1 ho1 hg1)
  have HBX := hide (box_later HO.out hg1)
  have HB1 := hide (show Below base w w1 from (((Below.refl base w).alloc hbase _).alloc (by simp; omega) _).grown hg1 (by simp; omega) fun k hk => (HO.out.lt k hk).1)
  replace ho1 := hide ho1
  clear hg1
  obtain ⟨gx, hgx⟩ : ∃ g, g = w.heap.size := ⟨_, rfl⟩
  rw [← hgx] at HBX ⊢
  clear hgx
  go_loopw [0, 18] (fun V I wr => ∃ i : Nat, i ≤ 4 ∧ I = .int .i64 i ∧ Hid (wr.ownsRow base 5 1 V (n + 4 + i) (u8s (l ++ [op', 0, jt', jf'] ++ (kb k).take i))) ∧ Hid (Below base w wr) ∧ Hid (wr.heap[gx]? = some (.cells #[.int .i64 op', .int .i64 jt', .int .i64 jf', .int .u32 k] 78 (0, 0)))) (fun _ I _ => 4 - (intOf I).toNat)
  case atStart => exact ⟨0, by omega, rfl, hide (by rw [List.take_zero, List.append_nil]; exact ho1.out), HB1, HBX⟩
  case round =>
    obtain ⟨i, hi, rfl, HR, HB, HX⟩ := hrel
    by_cases hlt : i < 4
    · have c3 : wr.cell? ⟨gx, 3, none⟩ = some (.int .u32 k) := by rw [cell_of_row _ _ 3 _ _ _ HX.out]; rfl
      have hbs : base ≤ wr.heap.size := Nat.le_trans hbase HB.out.size
      have hcase : i = 0 ∨ i = 1 ∨ i = 2 ∨ i = 3 := by omega
      have HRB := hide hbs
      have hsz : wr.heap.size ≠ gx := fun e => by
        have h := HX.out
        rw [← e] at h
        simp at h
      rcases hcase with rfl | rfl | rfl | rfl
      · go_wp2_with (at_builtin; (refine wpList_append_u8 rfl _ _ rfl base u0 (n + 4 + 0) (l ++ [op', 0, jt', jf'] ++ (kb k).take 0) ?_ ?_ wr.heap.size 1 [k / 256 ^ 0 % 256] ?_ ?_ ?_ ?_ ?_ ?_ ?_ ?_ ?_); (· rfl); (· exact HR.out.alloc _); (· exact #[.int .u8 ((k / 256 ^ 0 % 256 : Nat) : Int)]); (· rfl); (· (refine (heap_alloc_new _ _).trans ?_; simp <;> omega)); (· rfl); (· rfl); (· omega); (· omega); (· simp; omega); intro v2 w2 ho2 hg2)
        have HX2 := hide (box_stays HR.out HX.out hg2)
        have HB2 := hide ((HB.out.alloc hbs _).grown hg2 (by simp; omega) fun k hk => (HR.out.lt k hk).1)
        have HO2 := hide (show w2.ownsRow base 5 1 v2 (n + 4 + (0 + 1)) (u8s (l ++ [op', 0, jt', jf'] ++ (kb k).take (0 + 1))) by rw [kb_take k 0 (by omega), ← List.append_assoc]; exact ho2)
        clear hg2 ho2
        go_round
        case rel => exact ⟨0 + 1, by omega, by go_num, HO2, HB2, HX2⟩
        case measure => simp [intOf]
      · go_wp2_with (at_builtin; (refine wpList_append_u8 rfl _ _ rfl base u0 (n + 4 + 1) (l ++ [op', 0, jt', jf'] ++ (kb k).take 1) ?_ ?_ wr.heap.size 1 [k / 256 ^ 1 % 256] ?_ ?_ ?_ ?_ ?_ ?_ ?_ ?_ ?_); (· rfl); (· exact HR.out.alloc _); (· exact #[.int .u8 ((k / 256 ^ 1 % 256 : Nat) : Int)]); (· rfl); (· (refine (heap_alloc_new _ _).trans ?_; simp <;> omega)); (· rfl); (· rfl); (· omega); (· omega); (· simp; omega); intro v2 w2 ho2 hg2)
        have HX2 := hide (box_stays HR.out HX.out hg2)
        have HB2 := hide ((HB.out.alloc hbs _).grown hg2 (by simp; omega) fun k hk => (HR.out.lt k hk).1)
        have HO2 := hide (show w2.ownsRow base 5 1 v2 (n + 4 + (1 + 1)) (u8s (l ++ [op', 0, jt', jf'] ++ (kb k).take (1 + 1))) by rw [kb_take k 1 (by omega), ← List.append_assoc]; exact ho2)
        clear hg2 ho2
        go_round
        case rel => exact ⟨1 + 1, by omega, by go_num, HO2, HB2, HX2⟩
        case measure => simp [intOf]
      · go_wp2_with (at_builtin; (refine wpList_append_u8 rfl _ _ rfl base u0 (n + 4 + 2) (l ++ [op', 0, jt', jf'] ++ (kb k).take 2) ?_ ?_ wr.heap.size 1 [k / 256 ^ 2 % 256] ?_ ?_ ?_ ?_ ?_ ?_ ?_ ?_ ?_); (· rfl); (· exact HR.out.alloc _); (· exact #[.int .u8 ((k / 256 ^ 2 % 256 : Nat) : Int)]); (· rfl); (· (refine (heap_alloc_new _ _).trans ?_; simp <;> omega)); (· rfl); (· rfl); (· omega); (· omega); (· simp; omega); intro v2 w2 ho2 hg2)
        have HX2 := hide (box_stays HR.out HX.out hg2)
        have HB2 := hide ((HB.out.alloc hbs _).grown hg2 (by simp; omega) fun k hk => (HR.out.lt k hk).1)
        have HO2 := hide (show w2.ownsRow base 5 1 v2 (n + 4 + (2 + 1)) (u8s (l ++ [op', 0, jt', jf'] ++ (kb k).take (2 + 1))) by rw [kb_take k 2 (by omega), ← List.append_assoc]; exact ho2)
        clear hg2 ho2
        go_round
        case rel => exact ⟨2 + 1, by omega, by go_num, HO2, HB2, HX2⟩
        case measure => simp [intOf]
      · go_wp2_with (at_builtin; (refine wpList_append_u8 rfl _ _ rfl base u0 (n + 4 + 3) (l ++ [op', 0, jt', jf'] ++ (kb k).take 3) ?_ ?_ wr.heap.size 1 [k / 256 ^ 3 % 256] ?_ ?_ ?_ ?_ ?_ ?_ ?_ ?_ ?_); (· rfl); (· exact HR.out.alloc _); (· exact #[.int .u8 ((k / 256 ^ 3 % 256 : Nat) : Int)]); (· rfl); (· (refine (heap_alloc_new _ _).trans ?_; simp <;> omega)); (· rfl); (· rfl); (· omega); (· omega); (· simp; omega); intro v2 w2 ho2 hg2)
        have HX2 := hide (box_stays HR.out HX.out hg2)
        have HB2 := hide ((HB.out.alloc hbs _).grown hg2 (by simp; omega) fun k hk => (HR.out.lt k hk).1)
        have HO2 := hide (show w2.ownsRow base 5 1 v2 (n + 4 + (3 + 1)) (u8s (l ++ [op', 0, jt', jf'] ++ (kb k).take (3 + 1))) by rw [kb_take k 3 (by omega), ← List.append_assoc]; exact ho2)
        clear hg2 ho2
        go_round
        case rel => exact ⟨3 + 1, by omega, by go_num, HO2, HB2, HX2⟩
        case measure => simp [intOf]
    · obtain rfl : i = 4 := by omega
      go_wp2
      go_ret
      refine ⟨_, rfl, ?_, HB.out⟩
      have h := HR.out
      rw [show (kb k).take 4 = kb k from rfl] at h
      rw [show insB ⟨(op' : Int), (jt' : Int), (jf' : Int), k⟩ = [op', 0, jt', jf'] ++ kb k from rfl, ← List.append_assoc]
      exact h
end Go.Proofs.Ytdennnlfjkphlaa

/- Run. -/
namespace Go.Proofs.Ytdennnlfjkphlaa
open Go.RowKit

/-- What comes of a program, in at most f steps from instruction p on, the number being x, d steps being done: what is returned, and in how many steps. -/
def runR (L : Nat → IN) (c : CL) : Nat → Nat → Nat → Nat → Nat × Nat
  | 0, _, _, _ => (0, 0)
  | f + 1, p, x, d =>
    if (L p).op = 8 then ((L p).k, d + 1)
    else if (L p).op = 1 then runR L c f (p + 1) (wordN c ((L p).k / 4)) (d + 1)
    else if (L p).op = 2 then runR L c f (p + 1) (x &&& (L p).k) (d + 1)
    else runR L c f (p + 1 + (skipI (L p) x).toNat) x (d + 1)

/-- What an instruction that is right is like. -/
theorem fine_ins {x : IN} {m : Nat} (h : faultI x m = 0) : 1 ≤ x.op ∧ x.op ≤ 8 ∧ 0 ≤ x.jt ∧ x.jt ≤ 255 ∧ 0 ≤ x.jf ∧ x.jf ≤ 255 ∧ (¬ (4 ≤ x.op ∧ x.op ≤ 7) → x.jt = 0 ∧ x.jf = 0) ∧ (x.op = 1 → placeB x.k = true) ∧ (x.op = 3 → x.k < m) ∧ (4 ≤ x.op ∧ x.op ≤ 7 → x.jt < m ∧ x.jf < m) := by
  obtain ⟨op, jt, jf, k⟩ := x
  unfold faultI at h
  simp only at h ⊢
  split at h
  · cases h
  rename_i h1
  split at h
  · cases h
  rename_i h2
  split at h
  · cases h
  rename_i h3
  simp only [skipB, branchB, Bool.or_eq_true, Bool.and_eq_true, Bool.not_eq_true', decide_eq_true_eq, Bool.and_eq_false_iff, decide_eq_false_iff_not, bne_iff_ne, beq_iff_eq, not_or, not_and] at h1 h2 h3
  refine ⟨by omega, by omega, by omega, by omega, by omega, by omega, by omega, fun e => ?_, by omega, by omega⟩
  have := h3.1.1 e
  simpa using this
structure Fit (n : Nat) (L : Nat → IN) : Prop where
  pos : 0 < n
  most : n ≤ 4096
  each : ∀ i, i < n → faultI (L i) (n - 1 - i) = 0
  last : (L (n - 1)).op = 8
theorem fit_of {n : Nat} {L : Nat → IN} (h : checkR n L = 0) : Fit n L := by
  unfold checkR at h
  split at h
  · cases h
  rename_i h1
  split at h
  · rename_i h2
    split at h
    · rename_i h3
      exact ⟨by omega, by omega, faultTo_each h2, h3⟩
    · cases h
  · rename_i h2
    exact absurd h h2
theorem Fit.next {n : Nat} {L : Nat → IN} (h : Fit n L) {p : Nat} (hp : p < n) (h8 : (L p).op ≠ 8) : p + 1 < n := by
  rcases Nat.lt_or_ge (p + 1) n with h1 | h1
  · exact h1
  · exact absurd (by rw [show p = n - 1 by omega]; exact h.last) h8
theorem Fit.skip {n : Nat} {L : Nat → IN} (h : Fit n L) {p : Nat} (hp : p < n) (h8 : (L p).op ≠ 8) (h1 : (L p).op ≠ 1) (h2 : (L p).op ≠ 2) (x : Nat) : 0 ≤ skipI (L p) x ∧ p + 1 + (skipI (L p) x).toNat < n := by
  have hf := fine_ins (h.each p hp)
  have hk := h.next hp h8
  unfold skipI
  split
  · rename_i h3
    rw [beq_iff_eq] at h3
    have := hf.2.2.2.2.2.2.2.2.1 h3
    omega
  · rename_i h3
    rw [beq_iff_eq] at h3
    have := hf.2.2.2.2.2.2.2.2.2 (by omega)
    split <;> omega

theorem wordN_lt (c : CL) (hc : ClOk c) (i : Nat) : wordN c i < 4294967296 := by
  obtain ⟨h1, h2, h3, h4, h5, h6⟩ := hc
  match i with
  | 0 => exact h2
  | 1 => exact h1
  | 2 => exact Nat.mod_lt _ (by decide)
  | 3 => simp only [wordN]; omega
  | 4 => exact Nat.mod_lt _ (by decide)
  | 5 => simp only [wordN]; omega
  | 6 => exact Nat.mod_lt _ (by decide)
  | 7 => simp only [wordN]; omega
  | 8 => exact Nat.mod_lt _ (by decide)
  | 9 => simp only [wordN]; omega
  | n + 10 => exact Nat.zero_lt_succ _

/-- A call lies in block g. -/
structure CallAt (W : World) (g : Nat) (c : CL) : Prop where
  k0 : W.cell? ⟨g, 0, none⟩ = some (.int .u32 c.arch)
  k1 : W.cell? ⟨g, 1, none⟩ = some (.int .u32 c.nr)
  k2 : W.cell? ⟨g, 2, none⟩ = some (.int .u64 c.a0)
  k3 : W.cell? ⟨g, 3, none⟩ = some (.int .u64 c.a1)
  k4 : W.cell? ⟨g, 4, none⟩ = some (.int .u64 c.a2)
  k5 : W.cell? ⟨g, 5, none⟩ = some (.int .u64 c.a3)
theorem CallAt.on {W V : World} {g : Nat} {c : CL} (h : CallAt W g c) (hc : ∀ j, V.cell? ⟨g, j, none⟩ = W.cell? ⟨g, j, none⟩) : CallAt V g c :=
  ⟨(hc _).trans h.k0, (hc _).trans h.k1, (hc _).trans h.k2, (hc _).trans h.k3, (hc _).trans h.k4, (hc _).trans h.k5⟩
theorem call_boxed (W : World) (c : CL) : CallAt (W.alloc (.cells #[.int .u32 c.arch, .int .u32 c.nr, .int .u64 c.a0, .int .u64 c.a1, .int .u64 c.a2, .int .u64 c.a3] 46)) W.heap.size c := by
  have h := fun i => cell_of_row (W.alloc (.cells #[.int .u32 c.arch, .int .u32 c.nr, .int .u64 c.a0, .int .u64 c.a1, .int .u64 c.a2, .int .u64 c.a3] 46)) W.heap.size i _ _ _ (heap_alloc_new W _)
  exact ⟨h 0, h 1, h 2, h 3, h 4, h 5⟩

theorem run_bad (oa : Option Addr) (n cap : Nat) (hn : n ≤ 9223372036854775807) (L : Nat → IN) (c : CL) (w : World) (h : IsProg oa n L w) (hf : checkR n L ≠ 0) :
    Calls Try.prog 47 #[.slice oa n cap, callV c] w fun e w' => e = .returned (.tuple #[.int .u32 0, .int .i64 0, errV (checkR n L)]) ∧ Below w.heap.size w w' := by
  unfold callV
  obtain ⟨W0, hW0⟩ : ∃ W0, W0 = w.alloc (.cells #[.int .u32 c.arch, .int .u32 c.nr, .int .u64 c.a0, .int .u64 c.a1, .int .u64 c.a2, .int .u64 c.a3] 46) := ⟨_, rfl⟩
  have hb0 : Below w.heap.size w W0 := by rw [hW0]; exact box_below _ _
  have HC := check_any oa n cap hn L W0 (h.on hb0)
  rw [errV_pos hf] at HC ⊢
  have HW := hide hW0
  rw [hW0] at HC
  clear hW0 h
  go_enter Try.func47, Try.ntmps47
  go_wp2_with (go_at_call 48; refine HC.mono ?_; rintro e w' ⟨rfl, hb⟩)
  go_ret3
  exact ⟨rfl, below_next (by rw [← HW.out]; exact hb0) hb⟩

set_option maxHeartbeats 2000000 in
theorem run_ok (oa : Option Addr) (n cap : Nat) (L : Nat → IN) (c : CL) (hc : ClOk c) (w : World) (h : IsProg oa n L w) (hf : checkR n L = 0) :
    Calls Try.prog 47 #[.slice oa n cap, callV c] w fun e w' => e = .returned (.tuple #[.int .u32 (runR L c n 0 0 0).1, .int .i64 (runR L c n 0 0 0).2, .nilIface]) ∧ Below w.heap.size w w' := by
  have HF := hide (fit_of hf)
  have hpos := HF.out.pos
  have hmost := HF.out.most
  unfold callV
  obtain ⟨W0, hW0⟩ : ∃ W0, W0 = w.alloc (.cells #[.int .u32 c.arch, .int .u32 c.nr, .int .u64 c.a0, .int .u64 c.a1, .int .u64 c.a2, .int .u64 c.a3] 46) := ⟨_, rfl⟩
  have hb0 : Below w.heap.size w W0 := by rw [hW0]; exact box_below _ _
  have hC0 : CallAt W0 w.heap.size c := by rw [hW0]; exact call_boxed w c
  have hg0 : w.heap.size < W0.heap.size := by rw [hW0]; simp
  have HC := check_any oa n cap (by omega) L W0 (h.on hb0)
  rw [hf, errV_zero] at HC
  rw [hW0] at HC
  obtain ⟨b, off, rfl, hb, hA0⟩ := h.lie hpos
  have HA := hide (show ∀ i, i < n → InsAt W0 b (off + i * 4) (L i) from fun i hi => (hA0 i hi).on fun j => (bcell hb0).1 b j hb)
  obtain ⟨g, hg⟩ : ∃ g, g = w.heap.size := ⟨_, rfl⟩
  rw [← hg] at hb hb0 hC0 hg0
  obtain ⟨R, hR⟩ : ∃ R, R = runR L c n 0 0 0 := ⟨_, rfl⟩
  rw [← hR]
  replace hR := hide hR
  have HW := hide hW0
  have HCL := hide hC0
  have HB0 := hide hb0
  clear hW0 h hA0 hf hC0 hb0
  go_enter Try.func47, Try.ntmps47
  go_wp2_with (go_at_call 48; refine HC.mono ?_; rintro e w1 ⟨rfl, hb1⟩)
  rw [← hg]
  rw [← HW.out] at hb1
  replace hb1 := hide hb1
  clear HC
  replace hg := hide hg
  go_loopw [8, 9, 21] (fun N P I w' => ∃ d p x : Nat, d ≤ n ∧ N = .int .u32 x ∧ P = .int .i64 p ∧ I = .int .i64 d ∧ p < n ∧ Hid (x < 4294967296) ∧ Hid (d ≤ p) ∧ Hid (runR L c (n - d) p x d = R) ∧ Hid (Below W0.heap.size W0 w')) (fun _ _ I _ => n - (intOf I).toNat)
  case atStart => exact ⟨0, 0, 0, by omega, rfl, rfl, rfl, hpos, hide (by decide), hide (Nat.le_refl _), hide hR.out.symm, hb1⟩
  case round =>
    obtain ⟨d, p, x, hd, rfl, rfl, rfl, hp, HX, HD, HR, HB⟩ := hrel
    have hdn : d < n := by have := HD.out; omega
    have hI := (HA.out p hp).on fun j => (bcell HB.out).1 b j (by omega)
    have hCa := HCL.out.on fun j => (bcell HB.out).1 g j hg0
    have HN := hide (fun h8 => HF.out.next hp h8)
    have HS := hide (fun h8 h1 h2 => HF.out.skip hp h8 h1 h2 x)
    have HE := hide (fine_ins (HF.out.each p hp))
    have hgw : g < wr.heap.size := Nat.lt_of_lt_of_le hg0 HB.out.size
    have hok := hI.ok
    have hRR := HR.out
    rw [show n - d = (n - d - 1) + 1 by omega, runR, show n - d - 1 = n - (d + 1) by omega] at hRR
    obtain ⟨y, hy⟩ : ∃ y, y = L p := ⟨_, rfl⟩
    rw [← hy] at hI HN HS HE hok hRR
    clear hy HR
    obtain ⟨c0, c1, c2, c3, _⟩ := hI
    obtain ⟨q0, q1, q2, q3, q4, q5⟩ := hCa
    by_cases h8 : y.op = 8
    · rw [if_pos h8] at hRR
      replace hRR := hide hRR
      obtain ⟨op, jt, jf, k⟩ := y
      simp only at h8 c0 c1 c2 c3
      subst h8
      clear HN HS HE hok q0 q1 q2 q3 q4 q5
      go_wp2
      go_ret3
      exact ⟨by rw [← hRR.out]; rfl, (by rw [← hg.out]; exact HB0.out.trans ((HB.out.trans ((box_below wr _).mono HB.out.size)).mono (Nat.le_of_lt hg0)))⟩
    by_cases h1 : y.op = 1
    · rw [if_neg h8, if_pos h1] at hRR
      replace hRR := hide hRR
      have HWd := word_ok c hc y.k (HE.out.2.2.2.2.2.2.2.1 h1)
      have hnx := HN.out h8
      obtain ⟨op, jt, jf, k⟩ := y
      simp only at h1 c0 c1 c2 c3 HWd
      subst h1
      unfold callV at HWd
      clear HN HS HE h8 hok
      go_wp2_with (go_at_call 43; refine (HWd _).mono ?_; rintro e w2 ⟨rfl, hb2⟩)
      go_round
      case rel => exact ⟨d + 1, p + 1, _, by omega, rfl, by go_num, by go_num, hnx, hide (wordN_lt c hc _), hide (by have := HD.out; omega), hRR, hide (below_next (below_next HB.out (box_below wr _)) hb2)⟩
      case measure => simp [intOf]; omega
    by_cases h2 : y.op = 2
    · rw [if_neg h8, if_neg h1, if_pos h2] at hRR
      replace hRR := hide hRR
      have hnx := HN.out h8
      have hbit := u32_and_nat x y.k HX.out hok.k2
      obtain ⟨op, jt, jf, k⟩ := y
      simp only at h2 c0 c1 c2 c3 hbit
      subst h2
      have HL := hide (show x &&& k < 4294967296 from Nat.lt_of_le_of_lt Nat.and_le_left HX.out)
      clear HN HS HE h8 h1 hok q0 q1 q2 q3 q4 q5
      go_wp2
      go_round
      case rel => exact ⟨d + 1, p + 1, _, by omega, rfl, by go_num, by go_num, hnx, HL, hide (by have := HD.out; omega), hRR, hide (below_next HB.out (box_below wr _))⟩
      case measure => simp [intOf]; omega
    · rw [if_neg h8, if_neg h1, if_neg h2] at hRR
      replace hRR := hide hRR
      obtain ⟨hs0, hs1⟩ := HS.out h8 h1 h2
      have HSk := skip_any y hok x HX.out
      obtain ⟨sk, hsk⟩ : ∃ sk, sk = (skipI y x).toNat := ⟨_, rfl⟩
      rw [← hsk] at hs1
      rw [show skipI y x = (sk : Int) by omega] at HSk
      replace hRR := hide (by have := hRR.out; rw [← hsk] at this; exact this)
      obtain ⟨op, jt, jf, k⟩ := y
      simp only at h8 h1 h2 c0 c1 c2 c3 HSk
      unfold insV at HSk
      simp only at HSk
      clear HN HS HE hok q0 q1 q2 q3 q4 q5 hs0 hsk
      have d8 : (op == 8) = false := by rw [beq_eq_false_iff_ne]; exact h8
      have d1 : (op == 1) = false := by rw [beq_eq_false_iff_ne]; exact h1
      have d2 : (op == 2) = false := by rw [beq_eq_false_iff_ne]; exact h2
      clear h8 h1 h2
      go_wp2_with (go_at_call 67; refine (HSk _).mono ?_; rintro e w2 ⟨rfl, hb2⟩)
      go_round
      case rel => exact ⟨d + 1, p + 1 + sk, x, by omega, rfl, by go_num, by go_num, hs1, HX, hide (by have := HD.out; omega), hRR, hide (below_next (below_next HB.out (box_below wr _)) hb2)⟩
      case measure => simp [intOf]; omega
end Go.Proofs.Ytdennnlfjkphlaa

/- Bytes. -/
namespace Go.Proofs.Ytdennnlfjkphlaa
open Go.RowKit

/-- The bytes of the first i instructions. -/
def progB (L : Nat → IN) : Nat → List Nat
  | 0 => []
  | i + 1 => progB L i ++ insB (L i)
theorem insB_len (x : IN) : (insB x).length = 8 := rfl
theorem progB_len (L : Nat → IN) : ∀ i, (progB L i).length = 8 * i
  | 0 => rfl
  | i + 1 => by rw [progB, List.length_append, progB_len L i, insB_len]; omega
def strB (l : List Nat) : ByteArray := ⟨(l.map UInt8.ofNat).toArray⟩

/-- 'make([]byte, 0, c)'. -/
theorem wpList_make_cap {ops : Array Oper} {rest : List Oper} {o : Oper} {a : Act} {w : World} {Q : Exit → Act → World → Prop} (hgd : o.guard = none) (x y : Operand) (ho : o.op = .makeSlice 120 x y) (c base : Nat)
    (hx : a.eval x = .int .i64 0) (hy : a.eval y = .int .i64 c) (hc : c ≤ 100000) (hbase : base ≤ w.heap.size)
    (h : ∀ v' w', w'.ownsRow base 5 1 v' 0 (u8s []) → Below w.heap.size w w' → wpList Try.prog ops Q rest (a.put o.dst v') w') : wpList Try.prog ops Q (o :: rest) a w := by
  obtain ⟨i, hi, hz, hs, hb⟩ := info_byte
  have hr := run_make (P := Try.prog) w 120 5 i _ Try.underlying120 hi hz .i64 .i64 (0 : Int) (c : Int) (by omega) (by omega) (by rw [hb]; omega) (by omega)
  rw [hs] at hr
  refine wpList_plain hgd fun _ hK => ?_
  unfold Oper.wp execOp
  simp only [ho, hx, hy, Sem.run_bind, hr, Result.andThen_ok]
  refine hK _ _ (h _ _ ?_ (box_below w _))
  exact World.ownsRow_made w _ _ hbase (by simp only [maxLen]; omega) (by rw [size_madeCells])

theorem conv_u8 {w : World} {base n : Nat} {v : Value} {l : List Nat} (hown : w.ownsRow base 5 1 v n (u8s l)) (hl : ∀ x ∈ l, x < 256) (hn : 0 < n) : (convert 120 9 v).run Try.prog w = .ok (.string (strB l)) w := by
  obtain ⟨g, cap, rfl⟩ := Go.Joins.ownsRow_form hown hn
  have hlen : l.length = n := by have := hown.1; rw [u8s_len] at this; omega
  have hb : (l.map UInt8.ofNat).length = n := by rw [List.length_map, hlen]
  have h := run_convert_bytes_back (P := Try.prog) w 120 9 5 ⟨g, 0, none⟩ cap (l.map UInt8.ofNat) Try.underlying120 Try.underlying5 Try.underlying9 fun j hj => by
    have hj' : j < l.length := by rw [hb] at hj; omega
    rw [hown.cells (g := g) rfl j (.int .u8 (l[j] : Nat)) (by unfold u8s; rw [List.getElem?_map, List.getElem?_eq_getElem hj']; rfl)]
    have hx := hl _ (List.getElem_mem hj')
    rw [List.getElem_map, UInt8.toNat_ofNat', Nat.mod_eq_of_lt (show l[j] < 2 ^ 8 from hx)]
  rw [hb] at h
  exact h
theorem small_of {x : IN} {m : Nat} (h : faultI x m = 0) (hk : InOk x) : Small x := by
  obtain ⟨h1, h2, h3, h4, h5, h6, _⟩ := fine_ins h
  exact ⟨by omega, by omega, h3, h4, h5, h6, hk.k2⟩
theorem insB_lt {x : IN} (h : Small x) : ∀ y ∈ insB x, y < 256 := by
  obtain ⟨o1, o2, t1, t2, f1, f2, k2⟩ := h
  intro y hy
  simp only [insB, kb, List.cons_append, List.nil_append, List.mem_cons, List.not_mem_nil, or_false] at hy
  rcases hy with rfl | rfl | rfl | rfl | rfl | rfl | rfl | rfl <;> omega
theorem progB_lt {L : Nat → IN} : ∀ {i : Nat}, (∀ j, j < i → Small (L j)) → ∀ y ∈ progB L i, y < 256
  | 0, _, y, hy => by cases hy
  | i + 1, h, y, hy => by
    rw [progB, List.mem_append] at hy
    rcases hy with hy | hy
    · exact progB_lt (fun j hj => h j (by omega)) y hy
    · exact insB_lt (h i (by omega)) y hy
theorem owns_u8_later {w w' : World} {base n : Nat} {v : Value} {xs : List Value} (h : w.ownsRow base 5 1 v n xs) (hb : Below w.heap.size w w') : w'.ownsRow base 5 1 v n xs := by
  refine h.kept (row := none) ⟨hb.os, hb.tape, hb.output, hb.size, fun k hk _ => hb.block k hk⟩ ?_
  cases hv : v.ownBlock with
  | none => exact .inl rfl
  | some k => exact .inr (by simp)

theorem bytes_bad (oa : Option Addr) (n cap : Nat) (hn : n ≤ 9223372036854775807) (L : Nat → IN) (w : World) (h : IsProg oa n L w) (hf : checkR n L ≠ 0) :
    Calls Try.prog 46 #[.slice oa n cap] w fun e w' => e = .returned (.tuple #[.string ⟨#[]⟩, errV (checkR n L)]) ∧ Below w.heap.size w w' := by
  have HC := check_any oa n cap hn L w h
  rw [errV_pos hf] at HC ⊢
  go_enter Try.func46, Try.ntmps46
  go_wp2_with (go_at_call 48; refine HC.mono ?_; rintro e w' ⟨rfl, hb⟩)
  go_ret2
  exact ⟨rfl, hb⟩

set_option maxRecDepth 20000 in
theorem bytes_ok (oa : Option Addr) (n cap : Nat) (L : Nat → IN) (w : World) (h : IsProg oa n L w) (hf : checkR n L = 0) :
    Calls Try.prog 46 #[.slice oa n cap] w fun e w' => e = .returned (.tuple #[.string (strB (progB L n)), .nilIface]) ∧ Below w.heap.size w w' := by
  have HF := hide (fit_of hf)
  have hpos := HF.out.pos
  have hmost := HF.out.most
  have HC := check_any oa n cap (by omega) L w h
  rw [hf, errV_zero] at HC
  obtain ⟨b, off, rfl, hb, hA0⟩ := h.lie hpos
  have HA := hide hA0
  have HS := hide (show ∀ j, j < n → Small (L j) from fun j hj => small_of (HF.out.each j hj) (hA0 j hj).ok)
  clear h hA0
  go_enter Try.func46, Try.ntmps46
  go_wp2_with fail
  refine HC.mono ?_
  rintro e w1 ⟨rfl, hb1⟩
  clear HC
  go_wp2_with (at_make; refine wpList_make_cap rfl _ _ rfl (n * 8) w.heap.size ?_ ?_ (by omega) hb1.size ?_; (· rfl); (· (simp [Act.eval])); intro v2 w2 ho2 hb2)
  replace ho2 := hide ho2
  replace hb2 := hide (below_next hb1 hb2)
  clear hb1
  go_loopw [5, 18] (fun V I wr => ∃ i : Nat, i ≤ n ∧ I = .int .i64 i ∧ Hid (wr.ownsRow w.heap.size 5 1 V (8 * i) (u8s (progB L i))) ∧ Hid (Below w.heap.size w wr)) (fun _ I _ => n - (intOf I).toNat)
  case atStart => exact ⟨0, by omega, rfl, ho2, hb2⟩
  case round =>
    obtain ⟨i, hi, rfl, HR, HB⟩ := hrel
    by_cases hlt : i < n
    · have hI := (HA.out i hlt).on fun j => (bcell HB.out).1 b j hb
      have HQ := hide (show progB L (i + 1) = progB L i ++ insB (L i) from rfl)
      have HAp := fun w' ho hbs => appendInsn_any w.heap.size u5 (8 * i) (progB L i) (L i) (HS.out i hlt) w' ho hbs (by omega)
      obtain ⟨x, hx⟩ : ∃ x, x = L i := ⟨_, rfl⟩
      rw [← hx] at hI HQ HAp
      clear hx
      obtain ⟨c0, c1, c2, c3, _⟩ := hI
      obtain ⟨op, jt, jf, k⟩ := x
      unfold insV at HAp
      simp only at c0 c1 c2 c3 HAp
      go_wp2_with (go_at_call 66; refine (HAp _ HR.out HB.out.size).mono ?_; rintro e w3 ⟨v3, rfl, ho3, hb3⟩)
      go_round
      case rel => exact ⟨i + 1, by omega, by go_num, hide (by rw [HQ.out]; exact ho3), hide (HB.out.trans hb3)⟩
      case measure => simp [intOf]; omega
    · obtain rfl : i = n := by omega
      have hcv := conv_u8 HR.out (progB_lt HS.out) (by omega)
      go_wp2
      go_ret2
      exact ⟨rfl, HB.out⟩
end Go.Proofs.Ytdennnlfjkphlaa

/- SameProgram; the document's ProgramBytes. -/
namespace Go.Proofs.Ytdennnlfjkphlaa
open Go.RowKit

def sameIns (x y : IN) : Bool := x.op == y.op && x.jt == y.jt && x.jf == y.jf && x.k == y.k
/-- Are the first i alike? -/
def sameTo (L M : Nat → IN) (i : Nat) : Bool := (List.range i).all fun j => sameIns (L j) (M j)
theorem sameTo_succ (L M : Nat → IN) (i : Nat) : sameTo L M (i + 1) = (sameTo L M i && sameIns (L i) (M i)) := by
  unfold sameTo
  rw [List.range_succ, List.all_append]
  simp
theorem sameTo_not {L M : Nat → IN} {i n : Nat} (h : sameIns (L i) (M i) = false) (hi : i < n) : sameTo L M n = false := by
  unfold sameTo
  rw [List.all_eq_false]
  exact ⟨i, List.mem_range.2 hi, by rw [h]; decide⟩

theorem sameProg_len (oa ob : Option Addr) (n ca m cb : Nat) (h : n ≠ m) (w : World) :
    Calls Try.prog 49 #[.slice oa n ca, .slice ob m cb] w fun e w' => e = .returned (.bool false) ∧ w' = w := by
  have d : ((n : Int) != (m : Int)) = true := by rw [bne_iff_ne]; omega
  go_enter Try.func49, Try.ntmps49
  go_wp2
  go_ret
  exact ⟨rfl, rfl⟩
set_option maxHeartbeats 2000000 in
theorem sameProg_any (oa ob : Option Addr) (n ca cb : Nat) (hn : n ≤ 9223372036854775807) (L M : Nat → IN) (w : World) (hL : IsProg oa n L w) (hM : IsProg ob n M w) :
    Calls Try.prog 49 #[.slice oa n ca, .slice ob n cb] w fun e w' => e = .returned (.bool (sameTo L M n)) ∧ ∃ k, w' = w.drewN k := by
  have d : ((n : Int) != (n : Int)) = false := by simp
  have HL := hide hL
  have HM := hide hM
  clear hL hM
  go_enter Try.func49, Try.ntmps49
  go_wp2
  go_loopw [5] (fun I wr => ∃ i k : Nat, i ≤ n ∧ I = .int .i64 i ∧ wr = w.drewN k ∧ Hid (sameTo L M i = true)) (fun I _ => n - (intOf I).toNat)
  case atStart => exact ⟨0, 0, by omega, rfl, rfl, hide rfl⟩
  case round =>
    obtain ⟨i, k, hi, rfl, rfl, HS⟩ := hrel
    by_cases hlt : i < n
    · obtain ⟨b, off, rfl, hb, hA⟩ := HL.out.lie (by omega)
      obtain ⟨b', off', rfl, hb', hA'⟩ := HM.out.lie (by omega)
      obtain ⟨c0, c1, c2, c3, _⟩ := hA i hlt
      obtain ⟨e0, e1, e2, e3, _⟩ := hA' i hlt
      have HQ := hide (show sameTo L M (i + 1) = sameIns (L i) (M i) by rw [sameTo_succ, HS.out, Bool.true_and])
      have HN := hide (fun h : sameIns (L i) (M i) = false => sameTo_not (n := n) h hlt)
      obtain ⟨x, hx⟩ : ∃ x, x = L i := ⟨_, rfl⟩
      obtain ⟨y, hy⟩ : ∃ y, y = M i := ⟨_, rfl⟩
      rw [← hx] at c0 c1 c2 c3 HQ HN
      rw [← hy] at e0 e1 e2 e3 HQ HN
      clear hx hy hA hA'
      obtain ⟨op, jt, jf, q⟩ := x
      obtain ⟨op', jt', jf', q'⟩ := y
      simp only at c0 c1 c2 c3 e0 e1 e2 e3
      by_cases z0 : op = op'
      case neg =>
        have HZ := hide (HN.out (by simp [sameIns, z0]))
        clear HN HQ
        go_wp2_with fail
        go_region
        go_wp2
        go_ret
        exact ⟨by rw [HZ.out]; rfl, _, rfl⟩
      subst z0
      by_cases z1 : jt = jt'
      case neg =>
        have HZ := hide (HN.out (by simp [sameIns, z1]))
        clear HN HQ
        go_wp2_with fail
        go_region
        go_wp2
        go_ret
        exact ⟨by rw [HZ.out]; rfl, _, rfl⟩
      subst z1
      by_cases z2 : jf = jf'
      case neg =>
        have HZ := hide (HN.out (by simp [sameIns, z2]))
        clear HN HQ
        go_wp2_with fail
        go_region
        go_wp2
        go_ret
        exact ⟨by rw [HZ.out]; rfl, _, rfl⟩
      subst z2
      by_cases z3 : q = q'
      case neg =>
        have HZ := hide (HN.out (by simp [sameIns, z3]))
        have z4 : ¬ (q : Int) = (q' : Int) := by omega
        clear HN HQ
        go_wp2_with fail
        go_region
        go_wp2
        go_ret
        exact ⟨by rw [HZ.out]; rfl, _, rfl⟩
      subst z3
      have HZ := hide (show sameTo L M (i + 1) = true by rw [HQ.out]; simp [sameIns])
      clear HN HQ
      go_wp2_with fail
      go_region
      go_wp2
      go_round
      case rel => exact ⟨i + 1, _, by omega, by go_num, rfl, HZ⟩
      case measure => simp [intOf]; omega
    · obtain rfl : i = n := by omega
      go_wp2
      go_ret
      exact ⟨by rw [HS.out]; rfl, _, rfl⟩

theorem drew_owns {w : World} {base n k : Nat} {v : Value} {xs : List Value} (h : w.ownsRow base 5 1 v n xs) : (w.drewN k).ownsRow base 5 1 v n xs := h
set_option maxRecDepth 100000 in
set_option maxHeartbeats 4000000 in
/-- The document's bytes. -/
theorem rbytes_ok (oa : Option Addr) (n cap : Nat) (L : Nat → IN) (w : World) (h : IsProg oa n L w) (hf : checkR n L = 0) :
    Calls Try.prog 52 #[.slice oa n cap] w fun e w' => e = .returned (.string (strB (progB L n))) ∧ Below w.heap.size w w' := by
  have HF := hide (fit_of hf)
  have hpos := HF.out.pos
  have hmost := HF.out.most
  obtain ⟨b, off, rfl, hb, hA0⟩ := h.lie hpos
  have HA := hide hA0
  have HS := hide (show ∀ j, j < n → Small (L j) from fun j hj => small_of (HF.out.each j hj) (hA0 j hj).ok)
  obtain ⟨inf, hi0, hz0, hz1, hz2⟩ := info_byte
  clear h hA0 hf
  go_enter Try.func52, Try.ntmps52
  go_wp2
  go_loopw [3, 4] (fun V I wr => ∃ i : Nat, i ≤ n ∧ I = .int .i64 i ∧ Hid (wr.ownsRow w.heap.size 5 1 V (8 * i) (u8s (progB L i))) ∧ Hid (Below w.heap.size w wr)) (fun _ I _ => n - (intOf I).toNat)
  case atStart => exact ⟨0, by omega, rfl, hide (World.ownsRow_nil _ _ _ _), hide (Below.refl _ _)⟩
  case round =>
    obtain ⟨i, hi, rfl, HR, HB⟩ := hrel
    by_cases hlt : i < n
    · have hI := (HA.out i hlt).on fun j => (bcell HB.out).1 b j hb
      have HQ := hide (show progB L (i + 1) = progB L i ++ insB (L i) from rfl)
      have hsm := HS.out i hlt
      have hbs := HB.out.size
      have lb : b < wr.heap.size := by omega
      have hne : u3.ownBlock ≠ some b := fun e => by have := (HR.out.lt b e).1; omega
      obtain ⟨x, hx⟩ : ∃ x, x = L i := ⟨_, rfl⟩
      rw [← hx] at hI HQ hsm
      clear hx
      obtain ⟨c0, c1, c2, c3, _⟩ := hI
      obtain ⟨op, jt, jf, k⟩ := x
      obtain ⟨o1, o2, t1, t2, f1, f2, k2⟩ := hsm
      simp only at c0 c1 c2 c3 o1 o2 t1 t2 f1 f2 k2
      obtain ⟨op', rfl⟩ : ∃ m : Nat, op = m := ⟨op.toNat, by omega⟩
      obtain ⟨jt', rfl⟩ : ∃ m : Nat, jt = m := ⟨jt.toNat, by omega⟩
      obtain ⟨jf', rfl⟩ : ∃ m : Nat, jf = m := ⟨jf.toNat, by omega⟩
      have hi0' : (0 : Int) ≤ (i : Int) := Int.natCast_nonneg _
      have hi1 : (i : Int) < (n : Int) := by omega
      have HWO := hide (show IntKind.u8.wrap (op' : Int) = op' by rw [IntKind.wrap_u8]; omega)
      have HWT := hide (show IntKind.u8.wrap (jt' : Int) = jt' by rw [IntKind.wrap_u8]; omega)
      have HWF := hide (show IntKind.u8.wrap (jf' : Int) = jf' by rw [IntKind.wrap_u8]; omega)
      go_wp2_with fail
      go_region_held3 (fun w' => w'.cell? ⟨b, off + i * 4, none⟩ = some (.int .i64 op') ∧ w'.cell? ⟨b, off + i * 4 + 1, none⟩ = some (.int .i64 jt') ∧ w'.cell? ⟨b, off + i * 4 + 2, none⟩ = some (.int .i64 jf') ∧ w'.cell? ⟨b, off + i * 4 + 3, none⟩ = some (.int .u32 k))
        (first
          | go_keep
          | (go_split_ands
             refine ⟨?_, ?_, ?_, ?_⟩
             · (rw [hgrow.cell_far _ (by simp; omega) (Ne.symm hne)]; assumption)
             · (rw [hgrow.cell_far _ (by simp; omega) (Ne.symm hne)]; assumption)
             · (rw [hgrow.cell_far _ (by simp; omega) (Ne.symm hne)]; assumption)
             · (rw [hgrow.cell_far _ (by simp; omega) (Ne.symm hne)]; assumption)))
        ((refine step_append_lies _ (by rfl) _ _ _ (by rfl) w.heap.size 5 inf _ 1 1 Try.underlying120 hi0 hz0 hz1 hz2 rfl (by omega) u3 (8 * i) (u8s (progB L i)) (by rfl) ((HR.out.alloc _).drew)
            ⟨wr.heap.size, 0, none⟩ 4 4 (u8s [op', 0, jt', jf']) (by rfl) (by rfl) (World.news_of_block (cs := #[.int .u8 op', .int .u8 0, .int .u8 jt', .int .u8 jf']) (t := 5) (fr := (0, 0)) (by rw [HWO.out, HWT.out, HWF.out]; exact heap_alloc_new wr _)) (by simp [u8s, Value.oneCell'])
            (by omega) (by simp only [maxLen]; omega) (by omega) (by simp; omega) (wr.heap.size + 1) (by simp) ?_; intro gg cap1 w1 hown1 hgrow hat hltt))
      simp only [HWO.out, HWT.out, HWF.out]
      have HB1 := hide (show Below w.heap.size w w1 from (((HB.out.alloc hbs _).drew).grown hgrow (by simp; omega) fun k hk => (HR.out.lt k hk).1))
      have c3' : w1.cell? ⟨b, off + i * 4 + 3, none⟩ = some (.int .u32 k) := (bcell HB1.out).1 b _ hb |>.trans (((bcell HB.out).1 b _ hb).symm.trans c3)
      have HO1 := hide (show w1.ownsRow w.heap.size 5 1 (.slice (some ⟨gg, 0, none⟩) (8 * i + 4) cap1) (8 * i + 4) (u8s (progB L i ++ [op', 0, jt', jf'])) by rw [u8s_append]; exact hown1)
      clear hown1 hgrow hat hltt c0 c1 c2 c3
      go_wp2
      obtain ⟨wo, hwo⟩ : ∃ wo : World, wo = wr := ⟨_, rfl⟩
      clear hwo wo
      go_loopw [3, 5, 6] (fun V K J wr => ∃ j : Nat, j ≤ 4 ∧ J = .int .i64 j ∧ K = .int .u32 ((k / 256 ^ j : Nat) : Int) ∧ Hid (wr.ownsRow w.heap.size 5 1 V (8 * i + 4 + j) (u8s (progB L i ++ [op', 0, jt', jf'] ++ (kb k).take j))) ∧ Hid (Below w.heap.size w wr)) (fun _ _ J _ => 4 - (intOf J).toNat)
      case atStart => exact ⟨0, by omega, rfl, by simp, hide (by rw [List.take_zero, List.append_nil]; exact HO1.out), HB1⟩
      case round =>
        obtain ⟨j, hj, rfl, rfl, HR2, HB2⟩ := hrel
        have hbs2 := HB2.out.size
        have hcase : j = 0 ∨ j = 1 ∨ j = 2 ∨ j = 3 ∨ j = 4 := by omega
        rcases hcase with rfl | rfl | rfl | rfl | rfl
        · go_wp2_with (at_builtin; (refine wpList_append_u8 rfl _ _ rfl w.heap.size u3 (8 * i + 4 + 0) (progB L i ++ [op', 0, jt', jf'] ++ (kb k).take 0) ?_ ?_ wr.heap.size 1 [k / 256 ^ 0 % 256] ?_ ?_ ?_ ?_ ?_ ?_ ?_ ?_ ?_); (· rfl); (· exact HR2.out.alloc _); (· exact #[.int .u8 ((k / 256 ^ 0 % 256 : Nat) : Int)]); (· rfl); (· (refine (heap_alloc_new _ _).trans ?_; simp)); (· rfl); (· rfl); (· omega); (· omega); (· simp; omega); intro v2 w2 ho2 hg2)
          have HB3 := hide ((HB2.out.alloc hbs2 _).grown hg2 (by simp; omega) fun k hk => (HR2.out.lt k hk).1)
          have HO2 := hide (show w2.ownsRow w.heap.size 5 1 v2 (8 * i + 4 + (0 + 1)) (u8s (progB L i ++ [op', 0, jt', jf'] ++ (kb k).take (0 + 1))) by rw [kb_take k 0 (by omega), ← List.append_assoc]; exact ho2)
          clear hg2 ho2
          go_round
          case rel =>
            exact ⟨0 + 1, by omega, by go_num, by first | rfl | (simp only [Value.int.injEq, true_and]; omega), HO2, HB3⟩
          case measure => simp [intOf]
        · go_wp2_with (at_builtin; (refine wpList_append_u8 rfl _ _ rfl w.heap.size u3 (8 * i + 4 + 1) (progB L i ++ [op', 0, jt', jf'] ++ (kb k).take 1) ?_ ?_ wr.heap.size 1 [k / 256 ^ 1 % 256] ?_ ?_ ?_ ?_ ?_ ?_ ?_ ?_ ?_); (· rfl); (· exact HR2.out.alloc _); (· exact #[.int .u8 ((k / 256 ^ 1 % 256 : Nat) : Int)]); (· rfl); (· (refine (heap_alloc_new _ _).trans ?_; simp)); (· rfl); (· rfl); (· omega); (· omega); (· simp; omega); intro v2 w2 ho2 hg2)
          have HB3 := hide ((HB2.out.alloc hbs2 _).grown hg2 (by simp; omega) fun k hk => (HR2.out.lt k hk).1)
          have HO2 := hide (show w2.ownsRow w.heap.size 5 1 v2 (8 * i + 4 + (1 + 1)) (u8s (progB L i ++ [op', 0, jt', jf'] ++ (kb k).take (1 + 1))) by rw [kb_take k 1 (by omega), ← List.append_assoc]; exact ho2)
          clear hg2 ho2
          go_round
          case rel =>
            exact ⟨1 + 1, by omega, by go_num, by first | rfl | (simp only [Value.int.injEq, true_and]; omega), HO2, HB3⟩
          case measure => simp [intOf]
        · go_wp2_with (at_builtin; (refine wpList_append_u8 rfl _ _ rfl w.heap.size u3 (8 * i + 4 + 2) (progB L i ++ [op', 0, jt', jf'] ++ (kb k).take 2) ?_ ?_ wr.heap.size 1 [k / 256 ^ 2 % 256] ?_ ?_ ?_ ?_ ?_ ?_ ?_ ?_ ?_); (· rfl); (· exact HR2.out.alloc _); (· exact #[.int .u8 ((k / 256 ^ 2 % 256 : Nat) : Int)]); (· rfl); (· (refine (heap_alloc_new _ _).trans ?_; simp)); (· rfl); (· rfl); (· omega); (· omega); (· simp; omega); intro v2 w2 ho2 hg2)
          have HB3 := hide ((HB2.out.alloc hbs2 _).grown hg2 (by simp; omega) fun k hk => (HR2.out.lt k hk).1)
          have HO2 := hide (show w2.ownsRow w.heap.size 5 1 v2 (8 * i + 4 + (2 + 1)) (u8s (progB L i ++ [op', 0, jt', jf'] ++ (kb k).take (2 + 1))) by rw [kb_take k 2 (by omega), ← List.append_assoc]; exact ho2)
          clear hg2 ho2
          go_round
          case rel =>
            exact ⟨2 + 1, by omega, by go_num, by first | rfl | (simp only [Value.int.injEq, true_and]; omega), HO2, HB3⟩
          case measure => simp [intOf]
        · go_wp2_with (at_builtin; (refine wpList_append_u8 rfl _ _ rfl w.heap.size u3 (8 * i + 4 + 3) (progB L i ++ [op', 0, jt', jf'] ++ (kb k).take 3) ?_ ?_ wr.heap.size 1 [k / 256 ^ 3 % 256] ?_ ?_ ?_ ?_ ?_ ?_ ?_ ?_ ?_); (· rfl); (· exact HR2.out.alloc _); (· exact #[.int .u8 ((k / 256 ^ 3 % 256 : Nat) : Int)]); (· rfl); (· (refine (heap_alloc_new _ _).trans ?_; simp)); (· rfl); (· rfl); (· omega); (· omega); (· simp; omega); intro v2 w2 ho2 hg2)
          have HB3 := hide ((HB2.out.alloc hbs2 _).grown hg2 (by simp; omega) fun k hk => (HR2.out.lt k hk).1)
          have HO2 := hide (show w2.ownsRow w.heap.size 5 1 v2 (8 * i + 4 + (3 + 1)) (u8s (progB L i ++ [op', 0, jt', jf'] ++ (kb k).take (3 + 1))) by rw [kb_take k 3 (by omega), ← List.append_assoc]; exact ho2)
          clear hg2 ho2
          go_round
          case rel =>
            exact ⟨3 + 1, by omega, by go_num, by first | rfl | (simp only [Value.int.injEq, true_and]; omega), HO2, HB3⟩
          case measure => simp [intOf]
        · have HO3 := hide (show wr.ownsRow w.heap.size 5 1 u3 (8 * (i + 1)) (u8s (progB L (i + 1))) by
            have h := HR2.out
            rw [HQ.out, show insB ⟨(op' : Int), (jt' : Int), (jf' : Int), k⟩ = [op', 0, jt', jf'] ++ kb k from rfl, ← List.append_assoc]
            exact h)
          go_wp2
          go_round
          case rel => exact ⟨i + 1, by omega, by go_num, HO3, HB2⟩
          case measure => simp [intOf]; omega
    · obtain rfl : i = n := by omega
      have hcv := conv_u8 HR.out (progB_lt HS.out) (by omega)
      go_wp2
      go_ret
      exact ⟨rfl, HB.out⟩
end Go.Proofs.Ytdennnlfjkphlaa

/- A string's bytes as numbers; '|' of numbers that share no bit. -/
namespace Go.Proofs.Ytdennnlfjkphlaa
open Go.RowKit

def byteAt (s : ByteArray) (i : Nat) : Nat := (s.data.toList.getD i 0).toNat
theorem byteAt_lt (s : ByteArray) (i : Nat) : byteAt s i < 256 := (s.data.toList.getD i 0).toNat_lt
theorem byteAt_eq (s : ByteArray) (i : Nat) (h : i < s.size) : s[i].toNat = byteAt s i := by
  unfold byteAt
  rw [List.getD_eq_getElem?_getD, List.getElem?_eq_getElem (by rw [← Lib.size_eq]; exact h)]
  rfl
theorem or8 (a b : Nat) (hb : b < 256) : a * 256 ||| b = a * 256 + b := by
  have := Nat.shiftLeft_add_eq_or_of_lt (i := 8) (b := b) (by omega) a
  rw [Nat.shiftLeft_eq] at this
  exact this.symm
theorem u32_or8 (a b : Nat) (ha : a < 16777216) (hb : b < 256) : bits .or .u32 ((a : Int) * 256) (b : Int) = ((a * 256 + b : Nat) : Int) := by
  rw [show (a : Int) * 256 = ((a * 256 : Nat) : Int) by simp, u32_or_nat _ _ (by omega) (by omega), or8 a b hb]
theorem i64_or_nat (a b : Nat) (ha : a < 9223372036854775808) (hb : b < 9223372036854775808) : bits .or .i64 (a : Int) (b : Int) = ((a ||| b : Nat) : Int) := by
  have hx : a ||| b < 2 ^ 63 := Nat.or_lt_two_pow (by omega) (by omega)
  have h1 : (BitVec.ofInt 64 (a : Int)).toNat = a := by rw [BitVec.ofInt_natCast, BitVec.toNat_ofNat]; exact Nat.mod_eq_of_lt (by omega)
  have h2 : (BitVec.ofInt 64 (b : Int)).toNat = b := by rw [BitVec.ofInt_natCast, BitVec.toNat_ofNat]; exact Nat.mod_eq_of_lt (by omega)
  show IntKind.i64.wrap ((BitVec.ofInt 64 (a : Int) ||| BitVec.ofInt 64 (b : Int)).toNat : Int) = _
  rw [BitVec.toNat_or, h1, h2]
  rw [IntKind.wrap_i64]
  omega
theorem i64_or8 (a b : Nat) (ha : a < 256) (hb : b < 256) : bits .or .i64 ((a : Int) * 256) (b : Int) = ((a * 256 + b : Nat) : Int) := by
  rw [show (a : Int) * 256 = ((a * 256 : Nat) : Int) by simp, i64_or_nat _ _ (by omega) (by omega), or8 a b hb]
end Go.Proofs.Ytdennnlfjkphlaa

/- readInsn. -/
namespace Go.Proofs.Ytdennnlfjkphlaa
open Go.RowKit

/-- The number of the first i of four bytes from o on, the lowest first. -/
def kTo (s : ByteArray) (o : Nat) : Nat → Nat
  | 0 => 0
  | i + 1 => kTo s o i + byteAt s (o + i) * 256 ^ i
theorem kTo_lt (s : ByteArray) (o : Nat) : ∀ i, kTo s o i < 256 ^ i
  | 0 => Nat.one_pos
  | i + 1 => by
    have h1 := kTo_lt s o i
    have h2 := byteAt_lt s (o + i)
    rw [kTo, Nat.pow_succ]
    have h3 : byteAt s (o + i) * 256 ^ i ≤ 255 * 256 ^ i := Nat.mul_le_mul_right _ (by omega)
    omega
/-- The instruction whose bytes lie from o on. -/
def insAt (s : ByteArray) (o : Nat) : IN := ⟨byteAt s o, byteAt s (o + 2), byteAt s (o + 3), kTo s (o + 4) 4⟩
theorem or_disjoint (a b i : Nat) (ha : a < 2 ^ i) : a ||| b * 2 ^ i = a + b * 2 ^ i := by
  have h := Nat.shiftLeft_add_eq_or_of_lt ha b
  rw [Nat.shiftLeft_eq] at h
  rw [Nat.or_comm, ← h]
  omega
theorem u32_or_at (a b i : Nat) (ha : a < 2 ^ i) (h : a + b * 2 ^ i < 4294967296) : bits .or .u32 (a : Int) ((b * 2 ^ i : Nat) : Int) = ((a + b * 2 ^ i : Nat) : Int) := by
  rw [u32_or_nat _ _ (by omega) (by omega), or_disjoint a b i ha]

abbrev insC (a b c k : Nat) : Array Value := #[.int .i64 a, .int .i64 b, .int .i64 c, .int .u32 k]
theorem size_ins : (Try.prog.info? 78).map (·.size) = some 4 := by kernel_rfl

theorem set_ins (w : World) (o : Obj) (a b c k k' : Value) (m : Nat) : (((w.alloc o).alloc (.cells #[a, b, c, k] 78)).drewN m).setCell ⟨w.heap.size + 1, 3, none⟩ k' = ((w.alloc o).alloc (.cells #[a, b, c, k'] 78)).drewN m := by
  have h1 : (w.alloc o).heap.size = w.heap.size + 1 := by simp
  have hh : (((w.alloc o).alloc (.cells #[a, b, c, k] 78)).drewN m).heap[w.heap.size + 1]? = some (.cells #[a, b, c, k] 78 (0, 0)) := by
    have h := heap_alloc_new (w.alloc o) (.cells #[a, b, c, k] 78)
    rw [h1] at h
    exact h
  rw [setCell_eq_setRow _ _ 3 _ _ _ _ hh]
  have h := World.setRow_alloc_new (w.alloc o) #[a, b, c, k] #[a, b, c, k'] 78
  rw [h1] at h
  exact congrArg (World.drewN · m) h
theorem set_one (W : World) (g i : Nat) (v : Value) (cs : Array Value) (t : TypeId) (h : W.heap[g]? = some (.cells cs t (0, 0))) : (W.setCell ⟨g, i, none⟩ v).heap[g]? = some (.cells (cs.setIfInBounds i v) t (0, 0)) := by
  rw [setCell_eq_setRow _ _ i _ _ _ _ h]
  exact setRow_heap _ _ _ _ _ _ h
theorem set_four (W : World) (g : Nat) (a b c d a' b' c' d' : Value) (t : TypeId) (h : W.heap[g]? = some (.cells #[a, b, c, d] t (0, 0))) :
    ((((W.setCell ⟨g, 0, none⟩ a').setCell ⟨g, 1, none⟩ b').setCell ⟨g, 2, none⟩ c').setCell ⟨g, 3, none⟩ d').heap[g]? = some (.cells #[a', b', c', d'] t (0, 0)) :=
  set_one _ g 3 d' _ t (set_one _ g 2 c' _ t (set_one _ g 1 b' _ t (set_one W g 0 a' _ t h)))
theorem or_step (s : ByteArray) (i : Nat) (hi : i < 4) : bits .or .u32 (kTo s 4 i : Int) ((byteAt s (4 + i) : Int) * ((256 ^ i : Nat) : Int)) = (kTo s 4 (i + 1) : Int) := by
  have h1 := kTo_lt s 4 i
  have h2 := kTo_lt s 4 (i + 1)
  have h3 : 256 ^ (i + 1) ≤ 4294967296 := by
    have := Nat.pow_le_pow_right (n := 256) (by decide) (show i + 1 ≤ 4 by omega)
    exact this
  have e : 256 ^ i = 2 ^ (8 * i) := by rw [Nat.pow_mul]
  rw [kTo] at h2 ⊢
  rw [e] at h1 h2 ⊢
  rw [← Int.natCast_mul]
  exact u32_or_at _ _ _ h1 (by omega)

set_option maxRecDepth 20000 in
set_option maxHeartbeats 2000000 in
theorem readInsn_any (s : ByteArray) (hs : 8 ≤ s.size) (hm : s.size ≤ 1000000) (w : World) :
    Calls Try.prog 69 #[.string s] w fun e w' => e = .returned (insV (insAt s 0)) ∧ Below w.heap.size w w' := by
  have b0 := byteAt_eq s 0 (by omega)
  have b2 := byteAt_eq s 2 (by omega)
  have b3 := byteAt_eq s 3 (by omega)
  have l0 := byteAt_lt s 0
  have l2 := byteAt_lt s 2
  have l3 := byteAt_lt s 3
  obtain ⟨x0, hx0⟩ : ∃ x, x = byteAt s 0 := ⟨_, rfl⟩
  obtain ⟨x2, hx2⟩ : ∃ x, x = byteAt s 2 := ⟨_, rfl⟩
  obtain ⟨x3, hx3⟩ : ∃ x, x = byteAt s 3 := ⟨_, rfl⟩
  rw [← hx0] at b0 l0
  rw [← hx2] at b2 l2
  rw [← hx3] at b3 l3
  replace hx0 := hide hx0
  replace hx2 := hide hx2
  replace hx3 := hide hx3
  go_enter Try.func69, Try.ntmps69
  go_wp2_with fail
  go_region
  go_wp2
  go_loopw [15] (fun I wr => ∃ i m : Nat, i ≤ 4 ∧ I = .int .i64 i ∧ wr = ((w.alloc (.cells #[.int .i64 0, .int .i64 0, .int .i64 0, .int .u32 0] 78)).alloc (.cells #[.int .i64 x0, .int .i64 x2, .int .i64 x3, .int .u32 (kTo s 4 i)] 78)).drewN m) (fun I _ => 4 - (intOf I).toNat)
  case atStart => first | exact ⟨0, 0, by omega, rfl, rfl⟩ | exact ⟨0, 1, by omega, rfl, rfl⟩
  case round =>
    obtain ⟨i, m, hi, rfl, rfl⟩ := hrel
    have hcase : i = 0 ∨ i = 1 ∨ i = 2 ∨ i = 3 ∨ i = 4 := by omega
    rcases hcase with rfl | rfl | rfl | rfl | rfl
    · have b4 := byteAt_eq s 4 (by omega)
      have l4 := byteAt_lt s 4
      have HOR := hide (show bits .or .u32 (kTo s 4 0 : Int) ((byteAt s 4 : Int)) = (kTo s 4 1 : Int) by have h := or_step s 0 (by omega); simpa using h)
      go_wp2_with fail
      go_region
      rw [HOR.out, set_ins]
      go_wp2
      go_round
      case rel => exact ⟨0 + 1, m + 1, by omega, by go_num, rfl⟩
      case measure => simp [intOf]
    · have b4 := byteAt_eq s 5 (by omega)
      have l4 := byteAt_lt s 5
      have HOR := hide (show bits .or .u32 (kTo s 4 1 : Int) ((byteAt s 5 : Int) * 256) = (kTo s 4 2 : Int) by exact or_step s 1 (by omega))
      go_wp2_with fail
      go_region
      rw [HOR.out, set_ins]
      go_wp2
      go_round
      case rel => exact ⟨1 + 1, m + 1, by omega, by go_num, rfl⟩
      case measure => simp [intOf]
    · have b4 := byteAt_eq s 6 (by omega)
      have l4 := byteAt_lt s 6
      have HOR := hide (show bits .or .u32 (kTo s 4 2 : Int) ((byteAt s 6 : Int) * 65536) = (kTo s 4 3 : Int) by exact or_step s 2 (by omega))
      go_wp2_with fail
      go_region
      rw [HOR.out, set_ins]
      go_wp2
      go_round
      case rel => exact ⟨2 + 1, m + 1, by omega, by go_num, rfl⟩
      case measure => simp [intOf]
    · have b4 := byteAt_eq s 7 (by omega)
      have l4 := byteAt_lt s 7
      have HOR := hide (show bits .or .u32 (kTo s 4 3 : Int) ((byteAt s 7 : Int) * 16777216) = (kTo s 4 4 : Int) by exact or_step s 3 (by omega))
      go_wp2_with fail
      go_region
      rw [HOR.out, set_ins]
      go_wp2
      go_round
      case rel => exact ⟨3 + 1, m + 1, by omega, by go_num, rfl⟩
      case measure => simp [intOf]
    · have HE := hide (show insV (insAt s 0) = .agg #[.int .i64 x0, .int .i64 x2, .int .i64 x3, .int .u32 (kTo s 4 4)] by rw [hx0.out, hx2.out, hx3.out]; rfl)
      go_wp2
      refine bodyPost_ret (results_cell_row rfl _ _ w.heap.size 78 #[.int .i64 x0, .int .i64 x2, .int .i64 x3, .int .u32 (kTo s 4 4)] (0, 0) _ rfl ?_ Try.underlying78 rfl size_ins) rfl ⟨?_, ?_⟩
      · exact set_four _ _ _ _ _ _ _ _ _ _ _ (heap_alloc_before w _ _)
      · rw [HE.out]
      · exact ((((below_drewN' (below_next (box_below w _) (box_below _ _)) m).setCell (Nat.le_refl _) _).setCell (Nat.le_refl _) _).setCell (Nat.le_refl _) _).setCell (Nat.le_refl _) _
end Go.Proofs.Ytdennnlfjkphlaa

/- Cells said by a function, for the walks of package mem: no array of pages is ever written out. -/
namespace Go.Proofs.Ytdennnlfjkphlaa
open Go.RowKit

/-- n cells, said by a function, as the kernel reckons them. -/
def VA0 (n : Nat) (f : Nat → Value) : Array Value := Array.ofFn (n := n) fun i => f i
/-- The same cells, kept shut: no walk looks into them. -/
def VA (n : Nat) (f : Nat → Value) : Array Value := if h : n = 0 then #[] else (VA (n - 1) f).push (f (n - 1))
theorem VA_eq (n : Nat) (f : Nat → Value) : VA n f = VA0 n f := by
  induction n with
  | zero => rw [VA]; simp [VA0]
  | succ n ih =>
    rw [VA]
    simp only [Nat.add_one_ne_zero, dite_false, Nat.add_sub_cancel, ih]
    apply Array.ext_getElem?
    intro i
    rw [Array.getElem?_push]
    have hz : (VA0 n f).size = n := by simp [VA0]
    rw [hz]
    by_cases hi : i = n
    · subst hi; simp [VA0]
    · rw [if_neg hi]
      by_cases hl : i < n
      · simp [VA0, hl, show i < n + 1 by omega]
      · simp [VA0, hl, show ¬ i < n + 1 by omega]
def updV (f : Nat → Value) (i : Nat) (v : Value) : Nat → Value := fun j => if j = i then v else f j
theorem VA_size (n : Nat) (f : Nat → Value) : (VA n f).size = n := by rw [VA_eq]; simp [VA0]
theorem VA_get (n : Nat) (f : Nat → Value) (i : Nat) (h : i < n) : (VA n f)[i]? = some (f i) := by rw [VA_eq]; simp [VA0, h]
theorem VA_none (n : Nat) (f : Nat → Value) (i : Nat) (h : ¬ i < n) : (VA n f)[i]? = none := by rw [VA_eq]; simp [VA0, h]
theorem VA_congr (n : Nat) (f g : Nat → Value) (h : ∀ i, i < n → f i = g i) : VA n f = VA n g := by
  apply Array.ext_getElem?
  intro j
  by_cases hj : j < n
  · rw [VA_get n f j hj, VA_get n g j hj, h j hj]
  · rw [VA_none n f j hj, VA_none n g j hj]
theorem VA_set (n : Nat) (f : Nat → Value) (i : Nat) (v : Value) : (VA n f).setIfInBounds i v = VA n (updV f i v) := by
  apply Array.ext_getElem?
  intro j
  rw [Array.getElem?_setIfInBounds]
  by_cases hj : j < n
  · rw [VA_get n f j hj, VA_get n _ j hj, VA_size]
    by_cases h : i = j
    · subst h; simp [updV, hj]
    · have h' : ¬ j = i := fun e => h e.symm
      simp [h, h', updV]
  · rw [VA_none n f j hj, VA_none n _ j hj, VA_size]
    by_cases h : i = j
    · subst h; simp [hj]
    · simp [h]

/-- Memory, as it stands: a byte at each address below 768, what may be read, what may be written. -/
structure MS where
  byte : Nat → Nat
  rd : Nat → Bool
  wt : Nat → Bool
/-- Its cells: twelve pages of sixty-four bytes and two words each. -/
def cellM (m : MS) (i : Nat) : Value := if i % 66 < 64 then .int .u8 (m.byte (i / 66 * 64 + i % 66)) else if i % 66 = 64 then .bool (m.rd (i / 66)) else .bool (m.wt (i / 66))
theorem cellM_byte (m : MS) (n j : Nat) (hj : j < 64) : cellM m (n * 66 + j) = .int .u8 (m.byte (n * 64 + j)) := by
  unfold cellM
  rw [if_pos (by omega), show (n * 66 + j) / 66 = n by omega, show (n * 66 + j) % 66 = j by omega]
theorem cellM_rd (m : MS) (n : Nat) : cellM m (n * 66 + 64) = .bool (m.rd n) := by
  unfold cellM
  rw [if_neg (by omega), if_pos (by omega), show (n * 66 + 64) / 66 = n by omega]
theorem cellM_wt (m : MS) (n : Nat) : cellM m (n * 66 + 65) = .bool (m.wt n) := by
  unfold cellM
  rw [if_neg (by omega), if_neg (by omega), show (n * 66 + 65) / 66 = n by omega]
def setRd (m : MS) (n : Nat) (b : Bool) : MS := { m with rd := fun k => if k = n then b else m.rd k }
def setWt (m : MS) (n : Nat) (b : Bool) : MS := { m with wt := fun k => if k = n then b else m.wt k }
def setBy (m : MS) (a : Nat) (x : Nat) : MS := { m with byte := fun k => if k = a then x else m.byte k }
theorem upd_rd (m : MS) (n : Nat) (b : Bool) : updV (cellM m) (n * 66 + 64) (.bool b) = cellM (setRd m n b) := by
  funext i
  unfold updV
  by_cases h : i = n * 66 + 64
  · rw [if_pos h, h, cellM_rd]; simp [setRd]
  · rw [if_neg h]
    unfold cellM setRd
    by_cases h1 : i % 66 < 64
    · rw [if_pos h1, if_pos h1]
    · rw [if_neg h1, if_neg h1]
      by_cases h2 : i % 66 = 64
      · rw [if_pos h2, if_pos h2]
        show _ = Value.bool (if i / 66 = n then b else m.rd (i / 66))
        rw [if_neg (by omega)]
      · rw [if_neg h2, if_neg h2]
theorem upd_wt (m : MS) (n : Nat) (b : Bool) : updV (cellM m) (n * 66 + 65) (.bool b) = cellM (setWt m n b) := by
  funext i
  unfold updV
  by_cases h : i = n * 66 + 65
  · rw [if_pos h, h, cellM_wt]; simp [setWt]
  · rw [if_neg h]
    unfold cellM setWt
    by_cases h1 : i % 66 < 64
    · rw [if_pos h1, if_pos h1]
    · rw [if_neg h1, if_neg h1]
      by_cases h2 : i % 66 = 64
      · rw [if_pos h2, if_pos h2]
      · rw [if_neg h2, if_neg h2]
        show _ = Value.bool (if i / 66 = n then b else m.wt (i / 66))
        rw [if_neg (by omega)]
theorem upd_by (m : MS) (n j x : Nat) (hj : j < 64) : updV (cellM m) (n * 66 + j) (.int .u8 x) = cellM (setBy m (n * 64 + j) x) := by
  funext i
  unfold updV
  by_cases h : i = n * 66 + j
  · rw [if_pos h, h, cellM_byte _ n j hj]; simp [setBy]
  · rw [if_neg h]
    unfold cellM setBy
    by_cases h1 : i % 66 < 64
    · rw [if_pos h1, if_pos h1]
      show _ = Value.int .u8 ((if i / 66 * 64 + i % 66 = n * 64 + j then x else m.byte (i / 66 * 64 + i % 66) : Nat) : Int)
      rw [if_neg (by omega)]
    · rw [if_neg h1, if_neg h1]

/-- Memory lies in block g. -/
def IsM (g : Nat) (m : MS) (W : World) : Prop := W.heap[g]? = some (.cells (VA 792 (cellM m)) 115 (0, 0))
theorem IsM.on {g : Nat} {m : MS} {W V : World} (h : IsM g m W) (hb : Below W.heap.size W V) : IsM g m V := (hb.block g (Array.getElem?_eq_some_iff.1 h).1).trans h

/-- A world with a block of memory in it. -/
structure MB where
  W : World
  g : Nat
  m0 : MS
  ok : IsM g m0 W
/-- That world, with this memory in the block, some draws later. -/
def PW (B : MB) (m : MS) (k : Nat) : World := (B.W.setRow B.g (VA 792 (cellM m))).drewN k
theorem PW_heap (B : MB) (m : MS) (k : Nat) : (PW B m k).heap[B.g]? = some (.cells (VA 792 (cellM m)) 115 (0, 0)) := setRow_heap _ _ _ _ _ _ B.ok
theorem PW_isM (B : MB) (m : MS) (k : Nat) : IsM B.g m (PW B m k) := PW_heap B m k
theorem PW_cell (B : MB) (m : MS) (k i : Nat) (hi : i < 792) : (PW B m k).cell? ⟨B.g, i, none⟩ = some (cellM m i) := by
  rw [cell_of_row _ _ i _ _ _ (PW_heap B m k), VA_get 792 _ i hi]
theorem PW_fro (B : MB) (m : MS) (k i : Nat) : (PW B m k).frozen? ⟨B.g, i, none⟩ = false := frozen_of_row _ _ i _ _ (PW_heap B m k)
theorem setRow_again (W : World) (g : Nat) (c0 c1 c2 : Array Value) (t : TypeId) (h : W.heap[g]? = some (.cells c0 t (0, 0))) : (W.setRow g c1).setRow g c2 = W.setRow g c2 := by
  unfold World.setRow
  congr 1
  apply Array.ext_getElem?
  intro j
  simp only [Array.getElem?_modify]
  by_cases hj : g = j
  · subst hj
    simp [h]
  · simp [hj]
theorem PW_row (B : MB) (m m' : MS) (k : Nat) : (PW B m k).setRow B.g (VA 792 (cellM m')) = PW B m' k := by
  unfold PW
  exact congrArg (World.drewN · k) (setRow_again B.W B.g _ _ _ _ B.ok)
theorem PW_set (B : MB) (m : MS) (k i : Nat) (v : Value) (m' : MS) (h : updV (cellM m) i v = cellM m') : (PW B m k).setCell ⟨B.g, i, none⟩ v = PW B m' k := by
  rw [setCell_eq_setRow _ _ i _ _ _ _ (PW_heap B m k), VA_set, h, PW_row]
theorem PW_rd (B : MB) (m : MS) (k n : Nat) (hn : n < 12) : (PW B m k).cell? ⟨B.g, n * 66 + 64, none⟩ = some (.bool (m.rd n)) := by rw [PW_cell B m k _ (by omega), cellM_rd]
theorem PW_wt (B : MB) (m : MS) (k n : Nat) (hn : n < 12) : (PW B m k).cell? ⟨B.g, n * 66 + 65, none⟩ = some (.bool (m.wt n)) := by rw [PW_cell B m k _ (by omega), cellM_wt]
theorem PW_by (B : MB) (m : MS) (k n j : Nat) (hn : n < 12) (hj : j < 64) : (PW B m k).cell? ⟨B.g, n * 66 + j, none⟩ = some (.int .u8 (m.byte (n * 64 + j))) := by rw [PW_cell B m k _ (by omega), cellM_byte _ _ _ hj]
theorem PW_setRd (B : MB) (m : MS) (k n : Nat) (b : Bool) : (PW B m k).setCell ⟨B.g, n * 66 + 64, none⟩ (.bool b) = PW B (setRd m n b) k := PW_set B m k _ _ _ (upd_rd m n b)
theorem PW_setWt (B : MB) (m : MS) (k n : Nat) (b : Bool) : (PW B m k).setCell ⟨B.g, n * 66 + 65, none⟩ (.bool b) = PW B (setWt m n b) k := PW_set B m k _ _ _ (upd_wt m n b)
theorem PW_setBy (B : MB) (m : MS) (k n j x : Nat) (hj : j < 64) : (PW B m k).setCell ⟨B.g, n * 66 + j, none⟩ (.int .u8 x) = PW B (setBy m (n * 64 + j) x) k := PW_set B m k _ _ _ (upd_by m n j x hj)
theorem PW_drewN (B : MB) (m : MS) (k n : Nat) : (PW B m k).drewN n = PW B m (k + n) := by unfold PW; rw [World.drewN_drewN]
theorem PW_drew (B : MB) (m : MS) (k : Nat) : (PW B m k).drew = PW B m (k + 1) := PW_drewN B m k 1
/-- Any world that holds memory is of this form. -/
theorem PW_of {g : Nat} {m : MS} {W : World} (h : IsM g m W) : W = PW ⟨W, g, m, h⟩ m 0 := by
  show W = (W.setRow g (VA 792 (cellM m))).drewN 0
  rw [show (W.setRow g (VA 792 (cellM m))) = W from setRow_self W g _ _ _ h]
  rfl
end Go.Proofs.Ytdennnlfjkphlaa
