/- TopBpf returns true for all programs and calls, and leaves them as they were. -/
import Derived.Test.YtdennnlfjkphlaaRows
import Derived.WalkKit
import Derived.WalkSpells
import Derived.WalkLawsBesides
import Derived.Deep.QuietTactic
import Derived.BigQuiet
import Derived.Handy
import Derived.Great.BuildSlice
import Derived.Deep.WholeRow
import Derived.Laws.BitsAllLaws
import Derived.ProofKit
import Derived.Carry
import Derived.OpenShut
import Derived.Deep.Slices
import Derived.Lib.SmallJoins
/- Small lemmas of my own that every walk of this seat uses: a world forgotten but for what is said of it, a fact hidden, old cells behind 'Below'. -/
namespace Go.Proofs.Ytdennnlfjkphlaa
open Go.RowKit

theorem hide {p : Prop} (h : p) : Hid p := h

/-- Of the world that a walk stands in only 'F' is kept. -/
theorem wp_forget {P : Program} {c : Code} {Q : Exit → Act → World → Prop} {a : Act} {W0 : World} (F : World → Prop) (h : F W0) (H : ∀ W, F W → Code.wp P c Q a W) : Code.wp P c Q a W0 := H _ h

theorem bcell {W w1 : World} (hb : Below W.heap.size W w1) : (∀ b o, b < W.heap.size → w1.cell? ⟨b, o, none⟩ = W.cell? ⟨b, o, none⟩) ∧ (∀ b o, b < W.heap.size → w1.frozen? ⟨b, o, none⟩ = W.frozen? ⟨b, o, none⟩) :=
  ⟨fun b o h => hb.cell (p := ⟨b, o, none⟩) h, fun b o h => hb.frozen (p := ⟨b, o, none⟩) h⟩

theorem ret_int {k : IntKind} {a b : Int} (h : a = b) : Ending.returned (.int k a) = .returned (.int k b) := by rw [h]
theorem ret_bool {a b : Bool} (h : a = b) : Ending.returned (.bool a) = .returned (.bool b) := by rw [h]

theorem below_drewN' {B : Nat} {a w : World} (h : Below B a w) (n : Nat) : Below B a (w.drewN n) := ⟨h.os, h.tape, h.output, h.size, h.block⟩

/-- 'Calls.quiet_of_same', in a world that has drawn already. -/
theorem quiet_same {P : Program} {f : FuncId} {args : Array Value} {w : World} {a n : Nat} {v : Value}
    (h : Calls P f args (w.drewN (a + n)) fun e w' => e = .returned v ∧ w' = w.drewN (a + n)) : Calls P f args (w.drewN (a + n)) fun e w'' => e = .returned v ∧ ∃ m, w'' = w.drewN (a + m) :=
  h.mono fun _ _ ⟨he, hm⟩ => ⟨he, n, hm⟩
theorem quiet_draws {P : Program} {f : FuncId} {args : Array Value} {w : World} {a n : Nat} {v : Value}
    (h : Calls P f args (w.drewN (a + n)) fun e w' => e = .returned v ∧ ∃ m, w' = (w.drewN (a + n)).drewN m) : Calls P f args (w.drewN (a + n)) fun e w'' => e = .returned v ∧ ∃ m, w'' = w.drewN (a + m) :=
  h.mono fun _ _ ⟨he, m, hm⟩ => ⟨he, n + m, by rw [hm, World.drewN_drewN, Nat.add_assoc]⟩

/-- 'same(nil, f)'. -/
theorem same_nil (f : Int) (w : World) :
    Calls Try.prog 11 #[.nilIface, .int .i64 f] w fun e w' => e = .returned (.bool (f == 0)) ∧ w' = w := by
  go_enter Try.func11, Try.ntmps11
  go_wp2
  go_ret
  exact ⟨rfl, rfl⟩

theorem assert_errno (n : Int) (w : World) : (Instr.typeAssert (.iface 98 (.int .i64 n)) 25 98 true).run Try.prog w = .ok (.tuple #[.int .i64 n, .bool true]) w := by kernel_rfl

/-- 'same(err, f)' at an error of the project's own. -/
theorem same_errno (n f : Int) (w : World) :
    Calls Try.prog 11 #[.iface 98 (.int .i64 n), .int .i64 f] w fun e w' => e = .returned (.bool (decide (0 < f) && n == f)) ∧ w' = w := by
  have ta := assert_errno n
  by_cases h : 0 < f
  · go_enter Try.func11, Try.ntmps11
    go_wp2
    go_ret
    exact ⟨by simp [h], rfl⟩
  · have hd : decide (0 < f) = false := by simpa using h
    rw [hd]
    go_enter Try.func11, Try.ntmps11
    go_wp2
    go_ret
    exact ⟨rfl, rfl⟩
end Go.Proofs.Ytdennnlfjkphlaa

/- Instructions and calls, as values and cells; the small functions of package bpf. -/
namespace Go.Proofs.Ytdennnlfjkphlaa
open Go.RowKit

/-- An instruction. -/
structure IN where
  op : Int
  jt : Int
  jf : Int
  k : Nat
def insV (x : IN) : Value := .agg #[.int .i64 x.op, .int .i64 x.jt, .int .i64 x.jf, .int .u32 x.k]
structure InOk (x : IN) : Prop where
  op1 : -9223372036854775808 ≤ x.op
  op2 : x.op ≤ 9223372036854775807
  jt1 : -9223372036854775808 ≤ x.jt
  jt2 : x.jt ≤ 9223372036854775807
  jf1 : -9223372036854775808 ≤ x.jf
  jf2 : x.jf ≤ 9223372036854775807
  k2 : x.k < 4294967296
/-- A call. -/
structure CL where
  arch : Nat
  nr : Nat
  a0 : Nat
  a1 : Nat
  a2 : Nat
  a3 : Nat
def callV (c : CL) : Value := .agg #[.int .u32 c.arch, .int .u32 c.nr, .int .u64 c.a0, .int .u64 c.a1, .int .u64 c.a2, .int .u64 c.a3]
structure ClOk (c : CL) : Prop where
  arch : c.arch < 4294967296
  nr : c.nr < 4294967296
  a0 : c.a0 < 18446744073709551616
  a1 : c.a1 < 18446744073709551616
  a2 : c.a2 < 18446744073709551616
  a3 : c.a3 < 18446744073709551616

def placeB (k : Nat) : Bool := decide (k < 40) && decide (k % 4 = 0)
def skipB (n : Int) : Bool := decide (0 ≤ n) && decide (n ≤ 255)
def branchB (op : Int) : Bool := decide (4 ≤ op) && decide (op ≤ 7)

theorem isPlace_any (k : Nat) (hk : k < 4294967296) (w : World) : Calls Try.prog 64 #[.int .u32 k] w fun e w' => e = .returned (.bool (placeB k)) ∧ w' = w := by
  go_enter Try.func64, Try.ntmps64
  go_wp2
  all_goals
    go_ret
    exact ⟨ret_bool (by unfold placeB; rw [Bool.eq_iff_iff]; simp; try omega), rfl⟩
theorem isSkip_any (n : Int) (w : World) : Calls Try.prog 75 #[.int .i64 n] w fun e w' => e = .returned (.bool (skipB n)) ∧ w' = w := by
  go_enter Try.func75, Try.ntmps75
  go_wp2
  all_goals
    go_ret
    exact ⟨ret_bool (by unfold skipB; rw [Bool.eq_iff_iff]; simp; try omega), rfl⟩
theorem isBranch_any (n : Int) (w : World) : Calls Try.prog 76 #[.int .i64 n] w fun e w' => e = .returned (.bool (branchB n)) ∧ w' = w := by
  go_enter Try.func76, Try.ntmps76
  go_wp2
  all_goals
    go_ret
    exact ⟨ret_bool (by unfold branchB; rw [Bool.eq_iff_iff]; simp; try omega), rfl⟩

/-- Does a branch hold? -/
def holdsB (x : IN) (y : Nat) : Bool := if x.op == 4 then (y : Int) == (x.k : Int) else if x.op == 5 then decide (x.k < y) else if x.op == 6 then decide (x.k ≤ y) else ((y &&& x.k : Nat) : Int) != 0
theorem box_below (w : World) (o : Obj) : Below w.heap.size w (w.alloc o) := (Below.refl _ _).alloc (Nat.le_refl _) _
theorem holds_any (x : IN) (hx : InOk x) (y : Nat) (hy : y < 4294967296) (w : World) : Calls Try.prog 74 #[insV x, .int .u32 y] w fun e w' => e = .returned (.bool (holdsB x y)) ∧ Below w.heap.size w w' := by
  obtain ⟨op, jt, jf, k⟩ := x
  have hb := u32_and_nat y k hy hx.k2
  unfold insV
  simp only at hb ⊢
  go_enter Try.func74, Try.ntmps74
  go_wp2
  all_goals
    go_ret
    exact ⟨ret_bool (by simp [holdsB, *]), box_below _ _⟩

theorem below_next {w w1 w2 : World} (a : Below w.heap.size w w1) (b : Below w1.heap.size w1 w2) : Below w.heap.size w w2 := a.trans (b.mono a.size)
/-- How many a jump or a branch passes over. -/
def skipI (x : IN) (y : Nat) : Int := if x.op == 3 then (x.k : Int) else if holdsB x y then x.jt else x.jf
theorem skip_any (x : IN) (hx : InOk x) (y : Nat) (hy : y < 4294967296) (w : World) : Calls Try.prog 67 #[insV x, .int .u32 y] w fun e w' => e = .returned (.int .i64 (skipI x y)) ∧ Below w.heap.size w w' := by
  obtain ⟨op, jt, jf, k⟩ := x
  have hk : k < 4294967296 := hx.k2
  have HH := holds_any ⟨op, jt, jf, k⟩ hx y hy
  have HS := hide (show skipI ⟨op, jt, jf, k⟩ y = if op == 3 then (k : Int) else if holdsB ⟨op, jt, jf, k⟩ y then jt else jf from rfl)
  obtain ⟨z, hz⟩ : ∃ z, z = holdsB ⟨op, jt, jf, k⟩ y := ⟨_, rfl⟩
  rw [← hz] at HH HS
  clear hz hx
  unfold insV at HH ⊢
  simp only at HH ⊢
  go_enter Try.func67, Try.ntmps67
  go_wp2_with (go_at_call 74; refine (HH _).mono ?_; rintro e w' ⟨rfl, hb⟩; have hbc := bcell hb)
  all_goals
    go_ret
    refine ⟨ret_int ?_, ?_⟩
  all_goals first
    | (rw [HS.out]; simp [*])
    | exact box_below _ _
    | exact below_next (box_below _ _) hb

/-- A word of the record. -/
def wordN (c : CL) : Nat → Nat
  | 0 => c.nr
  | 1 => c.arch
  | 2 => c.a0 % 4294967296
  | 3 => c.a0 / 4294967296
  | 4 => c.a1 % 4294967296
  | 5 => c.a1 / 4294967296
  | 6 => c.a2 % 4294967296
  | 7 => c.a2 / 4294967296
  | 8 => c.a3 % 4294967296
  | 9 => c.a3 / 4294967296
  | _ => 0
theorem word_no (c : CL) (k : Nat) (hk : k < 4294967296) (hp : placeB k = false) (w : World) : Calls Try.prog 43 #[callV c, .int .u32 k] w fun e w' => e = .returned (.tuple #[.int .u32 0, .iface 98 (.int .i64 1)]) ∧ Below w.heap.size w w' := by
  have HP := fun w => isPlace_any k hk w
  rw [hp] at HP
  unfold callV
  go_enter Try.func43, Try.ntmps43
  go_wp2_with (go_at_call 64; refine (HP _).mono ?_; rintro e w' ⟨rfl, rfl⟩)
  go_ret2
  exact ⟨rfl, box_below _ _⟩
theorem place_cases {k : Nat} (h : placeB k = true) : k = 0 ∨ k = 4 ∨ k = 8 ∨ k = 12 ∨ k = 16 ∨ k = 20 ∨ k = 24 ∨ k = 28 ∨ k = 32 ∨ k = 36 := by
  unfold placeB at h
  rw [Bool.and_eq_true, decide_eq_true_eq, decide_eq_true_eq] at h
  omega
theorem word_ok (c : CL) (hc : ClOk c) (k : Nat) (hp : placeB k = true) (w : World) : Calls Try.prog 43 #[callV c, .int .u32 k] w fun e w' => e = .returned (.tuple #[.int .u32 (wordN c (k / 4)), .nilIface]) ∧ Below w.heap.size w w' := by
  have HP := fun w => isPlace_any k (by rcases place_cases hp with h | h | h | h | h | h | h | h | h | h <;> omega) w
  rw [hp] at HP
  obtain ⟨arch, nr, a0, a1, a2, a3⟩ := c
  obtain ⟨h1, h2, h3, h4, h5, h6⟩ := hc
  simp only at h1 h2 h3 h4 h5 h6
  unfold callV
  simp only
  rcases place_cases hp with rfl | rfl | rfl | rfl | rfl | rfl | rfl | rfl | rfl | rfl
  all_goals
    clear hp
    go_enter Try.func43, Try.ntmps43
    go_wp2_with (go_at_call 64; refine (HP _).mono ?_; rintro e w' ⟨rfl, rfl⟩)
    go_ret2
    refine ⟨?_, box_below _ _⟩
    first | rfl | (simp only [wordN]; congr 4; omega)
end Go.Proofs.Ytdennnlfjkphlaa

/- checkInsn, Check. -/
namespace Go.Proofs.Ytdennnlfjkphlaa
open Go.RowKit

/-- What is wrong with an instruction that has so many behind it: D2. -/
def faultI (x : IN) (behind : Nat) : Nat :=
  if decide (x.op < 1) || decide (8 < x.op) || !skipB x.jt || !skipB x.jf then 1
  else if !branchB x.op && (x.jt != 0 || x.jf != 0) then 3
  else if (x.op == 1 && !placeB x.k) || (x.op == 3 && decide (behind ≤ x.k)) || (branchB x.op && (decide ((behind : Int) ≤ x.jt) || decide ((behind : Int) ≤ x.jf))) then 1 else 0
/-- An error's number, as a value. -/
def errV (f : Nat) : Value := if f = 0 then .nilIface else .iface 98 (.int .i64 f)

theorem checkInsn_a (op jt jf : Int) (k : Nat) (m : Nat) (w : World) (h : op < 1 ∨ 8 < op ∨ skipB jt = false ∨ skipB jf = false) : Calls Try.prog 68 #[insV ⟨op, jt, jf, k⟩, .int .i64 m] w fun e w' => e = .returned (errV (faultI ⟨op, jt, jf, k⟩ m)) ∧ Below w.heap.size w w' := by
  have HF := hide (show faultI ⟨op, jt, jf, k⟩ m = 1 by
    unfold faultI
    rw [if_pos]
    rcases h with h | h | h | h <;> simp [h])
  unfold insV
  simp only
  by_cases d1 : op < 1
  · go_enter Try.func68, Try.ntmps68
    go_wp2
    go_ret
    exact ⟨by rw [HF.out]; rfl, box_below _ _⟩
  by_cases d2 : 8 < op
  · go_enter Try.func68, Try.ntmps68
    go_wp2
    go_ret
    exact ⟨by rw [HF.out]; rfl, box_below _ _⟩
  cases e1 : skipB jt with
  | false =>
    go_enter Try.func68, Try.ntmps68
    go_wp2_with (go_at_call 75; refine (isSkip_any _ _).mono ?_; rw [e1]; rintro e w' ⟨rfl, rfl⟩)
    go_ret
    exact ⟨by rw [HF.out]; rfl, box_below _ _⟩
  | true =>
    have e2 : skipB jf = false := by simp_all
    go_enter Try.func68, Try.ntmps68
    go_wp2_with (go_at_call 75; refine (isSkip_any _ _).mono ?_; (first | rw [e1] | rw [e2]); rintro e w' ⟨rfl, rfl⟩)
    go_ret
    exact ⟨by rw [HF.out]; rfl, box_below _ _⟩

theorem checkInsn_b (op jt jf : Int) (k : Nat) (m : Nat) (w : World) (d1 : ¬ op < 1) (d2 : ¬ 8 < op) (e1 : skipB jt = true) (e2 : skipB jf = true) (e3 : branchB op = false) (h : jt ≠ 0 ∨ jf ≠ 0) : Calls Try.prog 68 #[insV ⟨op, jt, jf, k⟩, .int .i64 m] w fun e w' => e = .returned (errV (faultI ⟨op, jt, jf, k⟩ m)) ∧ Below w.heap.size w w' := by
  have HF := hide (show faultI ⟨op, jt, jf, k⟩ m = 3 by
    unfold faultI
    rw [if_neg (by simp [d1, d2, e1, e2]), if_pos]
    rcases h with h | h <;> simp [h, e3])
  unfold insV
  simp only
  by_cases h0 : jt = 0
  · subst h0
    have h1 : jf ≠ 0 := by simpa using h
    go_enter Try.func68, Try.ntmps68
    go_wp2_with (first
      | (go_at_call 76; refine (isBranch_any _ _).mono ?_; rw [e3]; rintro e w' ⟨rfl, rfl⟩)
      | (go_at_call 75; refine (isSkip_any _ _).mono ?_; (first | rw [e1] | rw [e2]); rintro e w' ⟨rfl, rfl⟩))
    go_ret
    exact ⟨by rw [HF.out]; rfl, box_below _ _⟩
  · go_enter Try.func68, Try.ntmps68
    go_wp2_with (first
      | (go_at_call 76; refine (isBranch_any _ _).mono ?_; rw [e3]; rintro e w' ⟨rfl, rfl⟩)
      | (go_at_call 75; refine (isSkip_any _ _).mono ?_; (first | rw [e1] | rw [e2]); rintro e w' ⟨rfl, rfl⟩))
    go_ret
    exact ⟨by rw [HF.out]; rfl, box_below _ _⟩

theorem checkInsn_c (op : Int) (k : Nat) (hk : k < 4294967296) (m : Nat) (hm : m ≤ 4096) (w : World) (h : op = 1 ∨ op = 2 ∨ op = 3 ∨ op = 8) : Calls Try.prog 68 #[insV ⟨op, 0, 0, k⟩, .int .i64 m] w fun e w' => e = .returned (errV (faultI ⟨op, 0, 0, k⟩ m)) ∧ Below w.heap.size w w' := by
  have e1 : skipB 0 = true := rfl
  have e2 : skipB 0 = true := rfl
  unfold insV
  simp only
  rcases h with rfl | rfl | rfl | rfl
  · have e3 : branchB 1 = false := rfl
    cases e4 : placeB k
    · have HF := hide (show faultI ⟨1, 0, 0, k⟩ m = 1 by unfold faultI; rw [if_neg (by simp [e1]), if_neg (by simp [e3]), if_pos (by simp [e4])])
      go_enter Try.func68, Try.ntmps68
      go_wp2_with (first
        | (go_at_call 64; refine (isPlace_any _ hk _).mono ?_; rw [e4]; rintro e w' ⟨rfl, rfl⟩)
        | (go_at_call 76; refine (isBranch_any _ _).mono ?_; rw [e3]; rintro e w' ⟨rfl, rfl⟩)
        | (go_at_call 75; refine (isSkip_any _ _).mono ?_; (first | rw [e1] | rw [e2]); rintro e w' ⟨rfl, rfl⟩))
      go_ret
      exact ⟨by rw [HF.out]; rfl, box_below _ _⟩
    · have HF := hide (show faultI ⟨1, 0, 0, k⟩ m = 0 by unfold faultI; rw [if_neg (by simp [e1]), if_neg (by simp [e3]), if_neg (by simp [e4, e3])])
      go_enter Try.func68, Try.ntmps68
      go_wp2_with (first
        | (go_at_call 64; refine (isPlace_any _ hk _).mono ?_; rw [e4]; rintro e w' ⟨rfl, rfl⟩)
        | (go_at_call 76; refine (isBranch_any _ _).mono ?_; rw [e3]; rintro e w' ⟨rfl, rfl⟩)
        | (go_at_call 75; refine (isSkip_any _ _).mono ?_; (first | rw [e1] | rw [e2]); rintro e w' ⟨rfl, rfl⟩))
      go_ret
      exact ⟨by rw [HF.out]; rfl, box_below _ _⟩
  · have e3 : branchB 2 = false := rfl
    have e4 : placeB k = placeB k := rfl
    have HF := hide (show faultI ⟨2, 0, 0, k⟩ m = 0 by unfold faultI; rw [if_neg (by simp [e1]), if_neg (by simp [e3]), if_neg (by simp [e3])])
    go_enter Try.func68, Try.ntmps68
    go_wp2_with (first
      | (go_at_call 64; refine (isPlace_any _ hk _).mono ?_; rw [e4]; rintro e w' ⟨rfl, rfl⟩)
      | (go_at_call 76; refine (isBranch_any _ _).mono ?_; rw [e3]; rintro e w' ⟨rfl, rfl⟩)
      | (go_at_call 75; refine (isSkip_any _ _).mono ?_; (first | rw [e1] | rw [e2]); rintro e w' ⟨rfl, rfl⟩))
    go_ret
    exact ⟨by rw [HF.out]; rfl, box_below _ _⟩
  · have e3 : branchB 3 = false := rfl
    have e4 : placeB k = placeB k := rfl
    by_cases h4 : m ≤ k
    · have HF := hide (show faultI ⟨3, 0, 0, k⟩ m = 1 by unfold faultI; rw [if_neg (by simp [e1]), if_neg (by simp [e3]), if_pos (by simp [h4])])
      go_enter Try.func68, Try.ntmps68
      go_wp2_with (first
        | (go_at_call 64; refine (isPlace_any _ hk _).mono ?_; rw [e4]; rintro e w' ⟨rfl, rfl⟩)
        | (go_at_call 76; refine (isBranch_any _ _).mono ?_; rw [e3]; rintro e w' ⟨rfl, rfl⟩)
        | (go_at_call 75; refine (isSkip_any _ _).mono ?_; (first | rw [e1] | rw [e2]); rintro e w' ⟨rfl, rfl⟩))
      go_ret
      exact ⟨by rw [HF.out]; rfl, box_below _ _⟩
    · have HF := hide (show faultI ⟨3, 0, 0, k⟩ m = 0 by unfold faultI; rw [if_neg (by simp [e1]), if_neg (by simp [e3]), if_neg (by simp [h4, e3])])
      go_enter Try.func68, Try.ntmps68
      go_wp2_with (first
        | (go_at_call 64; refine (isPlace_any _ hk _).mono ?_; rw [e4]; rintro e w' ⟨rfl, rfl⟩)
        | (go_at_call 76; refine (isBranch_any _ _).mono ?_; rw [e3]; rintro e w' ⟨rfl, rfl⟩)
        | (go_at_call 75; refine (isSkip_any _ _).mono ?_; (first | rw [e1] | rw [e2]); rintro e w' ⟨rfl, rfl⟩))
      go_ret
      exact ⟨by rw [HF.out]; rfl, box_below _ _⟩
  · have e3 : branchB 8 = false := rfl
    have e4 : placeB k = placeB k := rfl
    have HF := hide (show faultI ⟨8, 0, 0, k⟩ m = 0 by unfold faultI; rw [if_neg (by simp [e1]), if_neg (by simp [e3]), if_neg (by simp [e3])])
    go_enter Try.func68, Try.ntmps68
    go_wp2_with (first
      | (go_at_call 64; refine (isPlace_any _ hk _).mono ?_; rw [e4]; rintro e w' ⟨rfl, rfl⟩)
      | (go_at_call 76; refine (isBranch_any _ _).mono ?_; rw [e3]; rintro e w' ⟨rfl, rfl⟩)
      | (go_at_call 75; refine (isSkip_any _ _).mono ?_; (first | rw [e1] | rw [e2]); rintro e w' ⟨rfl, rfl⟩))
    go_ret
    exact ⟨by rw [HF.out]; rfl, box_below _ _⟩

theorem checkInsn_d (op jt jf : Int) (k : Nat) (m : Nat) (w : World) (h4 : 4 ≤ op) (h7 : op ≤ 7) (e1 : skipB jt = true) (e2 : skipB jf = true) : Calls Try.prog 68 #[insV ⟨op, jt, jf, k⟩, .int .i64 m] w fun e w' => e = .returned (errV (faultI ⟨op, jt, jf, k⟩ m)) ∧ Below w.heap.size w w' := by
  have e3 : branchB op = true := by unfold branchB; simp [h4, h7]
  have d1 : (op == 1) = false := by rw [beq_eq_false_iff_ne]; omega
  have d3 : (op == 3) = false := by rw [beq_eq_false_iff_ne]; omega
  have f1 : ¬ op < 1 := by omega
  have f2 : ¬ 8 < op := by omega
  have HG := hide (show faultI ⟨op, jt, jf, k⟩ m = if decide ((m : Int) ≤ jt) || decide ((m : Int) ≤ jf) then 1 else 0 by
    unfold faultI
    rw [if_neg (by simp [f1, f2, e1, e2]), if_neg (by simp [e3])]
    simp only [d1, d3, e3, Bool.false_and, Bool.true_and, Bool.false_or])
  clear h4 h7
  unfold insV
  simp only
  by_cases c1 : (m : Int) ≤ jt
  · have HF := hide (show faultI ⟨op, jt, jf, k⟩ m = 1 by rw [HG.out, if_pos (by simp [c1])])
    go_enter Try.func68, Try.ntmps68
    go_wp2_with (first
      | (go_at_call 76; refine (isBranch_any _ _).mono ?_; rw [e3]; rintro e w' ⟨rfl, rfl⟩)
      | (go_at_call 75; refine (isSkip_any _ _).mono ?_; (first | rw [e1] | rw [e2]); rintro e w' ⟨rfl, rfl⟩))
    go_ret
    exact ⟨by rw [HF.out]; rfl, box_below _ _⟩
  by_cases c2 : (m : Int) ≤ jf
  · have HF := hide (show faultI ⟨op, jt, jf, k⟩ m = 1 by rw [HG.out, if_pos (by simp [c2])])
    go_enter Try.func68, Try.ntmps68
    go_wp2_with (first
      | (go_at_call 76; refine (isBranch_any _ _).mono ?_; rw [e3]; rintro e w' ⟨rfl, rfl⟩)
      | (go_at_call 75; refine (isSkip_any _ _).mono ?_; (first | rw [e1] | rw [e2]); rintro e w' ⟨rfl, rfl⟩))
    go_ret
    exact ⟨by rw [HF.out]; rfl, box_below _ _⟩
  · have HF := hide (show faultI ⟨op, jt, jf, k⟩ m = 0 by rw [HG.out, if_neg (by simp [c1, c2])])
    go_enter Try.func68, Try.ntmps68
    go_wp2_with (first
      | (go_at_call 76; refine (isBranch_any _ _).mono ?_; rw [e3]; rintro e w' ⟨rfl, rfl⟩)
      | (go_at_call 75; refine (isSkip_any _ _).mono ?_; (first | rw [e1] | rw [e2]); rintro e w' ⟨rfl, rfl⟩))
    go_ret
    exact ⟨by rw [HF.out]; rfl, box_below _ _⟩

theorem checkInsn_any (x : IN) (hx : InOk x) (m : Nat) (hm : m ≤ 4096) (w : World) : Calls Try.prog 68 #[insV x, .int .i64 m] w fun e w' => e = .returned (errV (faultI x m)) ∧ Below w.heap.size w w' := by
  obtain ⟨op, jt, jf, k⟩ := x
  have hk : k < 4294967296 := hx.k2
  by_cases h : op < 1 ∨ 8 < op ∨ skipB jt = false ∨ skipB jf = false
  · exact checkInsn_a op jt jf k m w h
  rw [not_or, not_or, not_or, Bool.not_eq_false, Bool.not_eq_false] at h
  obtain ⟨d1, d2, e1, e2⟩ := h
  cases e3 : branchB op with
  | true =>
    have e5 := e3
    unfold branchB at e5
    rw [Bool.and_eq_true, decide_eq_true_eq, decide_eq_true_eq] at e5
    exact checkInsn_d op jt jf k m w e5.1 e5.2 e1 e2
  | false =>
    by_cases h0 : jt ≠ 0 ∨ jf ≠ 0
    · exact checkInsn_b op jt jf k m w d1 d2 e1 e2 e3 h0
    · obtain ⟨rfl, rfl⟩ : jt = 0 ∧ jf = 0 := by omega
      unfold branchB at e3
      rw [Bool.and_eq_false_iff, decide_eq_false_iff_not, decide_eq_false_iff_not] at e3
      exact checkInsn_c op k hk m hm w (by omega)
end Go.Proofs.Ytdennnlfjkphlaa

/- Programs: Check, Run. -/
namespace Go.Proofs.Ytdennnlfjkphlaa
open Go.RowKit

/-- An instruction's cells lie from o on. -/
structure InsAt (W : World) (b o : Nat) (x : IN) : Prop where
  k0 : W.cell? ⟨b, o, none⟩ = some (.int .i64 x.op)
  k1 : W.cell? ⟨b, o + 1, none⟩ = some (.int .i64 x.jt)
  k2 : W.cell? ⟨b, o + 2, none⟩ = some (.int .i64 x.jf)
  k3 : W.cell? ⟨b, o + 3, none⟩ = some (.int .u32 x.k)
  ok : InOk x
theorem InsAt.on {W V : World} {b o : Nat} {x : IN} (h : InsAt W b o x) (hc : ∀ j, V.cell? ⟨b, j, none⟩ = W.cell? ⟨b, j, none⟩) : InsAt V b o x :=
  ⟨(hc _).trans h.k0, (hc _).trans h.k1, (hc _).trans h.k2, (hc _).trans h.k3, h.ok⟩
/-- A slice of n instructions in a world. -/
structure IsProg (oa : Option Addr) (n : Nat) (L : Nat → IN) (W : World) : Prop where
  lie : 0 < n → ∃ b off, oa = some ⟨b, off, none⟩ ∧ b < W.heap.size ∧ ∀ i, i < n → InsAt W b (off + i * 4) (L i)
theorem IsProg.on {oa : Option Addr} {n : Nat} {L : Nat → IN} {W V : World} (h : IsProg oa n L W) (hb : Below W.heap.size W V) : IsProg oa n L V :=
  ⟨fun h0 => by
    obtain ⟨b, off, h1, h2, h3⟩ := h.lie h0
    exact ⟨b, off, h1, Nat.lt_of_lt_of_le h2 hb.size, fun i hi => (h3 i hi).on fun j => (bcell hb).1 b j h2⟩⟩

/-- The first fault of the first i. -/
def faultTo (n : Nat) (L : Nat → IN) : Nat → Nat
  | 0 => 0
  | i + 1 => if faultTo n L i = 0 then faultI (L i) (n - 1 - i) else faultTo n L i
/-- What is wrong with a program: D2. -/
def checkR (n : Nat) (L : Nat → IN) : Nat :=
  if n = 0 ∨ 4096 < n then 2 else if faultTo n L n = 0 then (if (L (n - 1)).op = 8 then 0 else 3) else faultTo n L n
theorem faultTo_stays {n : Nat} {L : Nat → IN} {i : Nat} (h : faultTo n L i ≠ 0) : ∀ j, i ≤ j → faultTo n L j = faultTo n L i
  | 0, hj => by rw [show i = 0 by omega]
  | j + 1, hj => by
    by_cases he : i = j + 1
    · rw [he]
    · rw [faultTo, faultTo_stays h j (by omega), if_neg h]
theorem faultTo_each {n : Nat} {L : Nat → IN} {j : Nat} (h : faultTo n L j = 0) : ∀ i, i < j → faultI (L i) (n - 1 - i) = 0 := fun i hi => by
  have h1 : faultTo n L (i + 1) = 0 := Classical.byContradiction fun hc => hc (by rw [← faultTo_stays hc j (by omega)]; exact h)
  have h0 : faultTo n L i = 0 := Classical.byContradiction fun hc => hc (by rw [← faultTo_stays hc j (by omega)]; exact h)
  rw [faultTo, if_pos h0] at h1
  exact h1

theorem errV_zero : errV 0 = .nilIface := rfl
theorem errV_pos {f : Nat} (h : f ≠ 0) : errV f = .iface 98 (.int .i64 f) := if_neg h

theorem check_any (oa : Option Addr) (n cap : Nat) (hn : n ≤ 9223372036854775807) (L : Nat → IN) (w : World) (h : IsProg oa n L w) :
    Calls Try.prog 48 #[.slice oa n cap] w fun e w' => e = .returned (errV (checkR n L)) ∧ Below w.heap.size w w' := by
  by_cases h0 : n = 0
  · subst h0
    go_enter Try.func48, Try.ntmps48
    go_wp2
    go_ret
    exact ⟨rfl, Below.refl _ _⟩
  by_cases h1 : 4096 < n
  · have HF := hide (show checkR n L = 2 from if_pos (.inr h1))
    go_enter Try.func48, Try.ntmps48
    go_wp2
    go_ret
    exact ⟨by rw [HF.out]; rfl, Below.refl _ _⟩
  have HR := hide (show checkR n L = if faultTo n L n = 0 then (if (L (n - 1)).op = 8 then 0 else 3) else faultTo n L n from if_neg (by omega))
  have d0 : ((n : Int) == 0) = false := by rw [beq_eq_false_iff_ne]; omega
  have d1 : decide ((4096 : Int) < (n : Int)) = false := by simp; omega
  obtain ⟨b, off, rfl, hb, hA0⟩ := h.lie (by omega)
  have HA := hide hA0
  clear h hA0
  go_enter Try.func48, Try.ntmps48
  go_wp2
  go_loopw [16] (fun I w' => ∃ i : Nat, i ≤ n ∧ I = .int .i64 i ∧ Hid (Below w.heap.size w w') ∧ Hid (faultTo n L i = 0)) (fun I _ => n - (intOf I).toNat)
  case atStart => exact ⟨0, by omega, rfl, hide (Below.refl _ _), hide rfl⟩
  case round =>
    obtain ⟨i, hi, rfl, HB, HG⟩ := hrel
    by_cases hlt : i < n
    · have hI := (HA.out i hlt).on fun j => (bcell HB.out).1 b j hb
      have HQ := hide (show faultTo n L (i + 1) = faultI (L i) (n - 1 - i) by rw [faultTo, if_pos HG.out])
      have hok := hI.ok
      obtain ⟨x, hx⟩ : ∃ x, x = L i := ⟨_, rfl⟩
      rw [← hx] at hI hok HQ
      have HC := checkInsn_any x hok (n - 1 - i) (by omega)
      obtain ⟨f, hf⟩ : ∃ f, f = faultI x (n - 1 - i) := ⟨_, rfl⟩
      rw [← hf] at HC HQ
      have hm : ((n - 1 - i : Nat) : Int) = (n : Int) - 1 - i := by omega
      rw [hm] at HC
      obtain ⟨c0, c1, c2, c3, _⟩ := hI
      clear hx hok hf hm
      obtain ⟨op, jt, jf, k⟩ := x
      unfold insV at HC
      simp only at c0 c1 c2 c3 HC
      by_cases hz : f = 0
      · subst hz
        rw [errV_zero] at HC
        go_wp2_with (go_at_call 68; refine (HC _).mono ?_; rintro e w1 ⟨rfl, hb1⟩)
        go_round
        case rel => exact ⟨i + 1, by omega, by go_num, hide (below_next HB.out hb1), HQ⟩
        case measure => simp [intOf]; omega
      · rw [errV_pos hz] at HC
        have HE := hide (show checkR n L = f by
          have h1 : faultTo n L n = f := (faultTo_stays (by rw [HQ.out]; exact hz) n (by omega)).trans HQ.out
          rw [HR.out, if_neg (by rw [h1]; exact hz), h1])
        go_wp2_with (go_at_call 68; refine (HC _).mono ?_; rintro e w1 ⟨rfl, hb1⟩)
        go_ret
        exact ⟨by rw [HE.out, errV_pos hz]; rfl, below_next HB.out hb1⟩
    · obtain rfl : i = n := by omega
      have hI := (HA.out (i - 1) (by omega)).on fun j => (bcell HB.out).1 b j hb
      have c0 := hI.k0
      have HE := hide (show checkR i L = if (L (i - 1)).op = 8 then 0 else 3 by rw [HR.out, if_pos HG.out])
      obtain ⟨op, hop⟩ : ∃ op, op = (L (i - 1)).op := ⟨_, rfl⟩
      rw [← hop] at c0 HE
      clear hop hI
      obtain ⟨j, rfl⟩ : ∃ j, i = j + 1 := ⟨i - 1, by omega⟩
      rw [Nat.add_sub_cancel] at c0
      by_cases h8 : op = 8
      · subst h8
        go_wp2
        go_ret
        exact ⟨by rw [HE.out]; rfl, HB.out⟩
      · have d8 : (op != 8) = true := by rw [bne_iff_ne]; exact h8
        go_wp2
        go_ret
        exact ⟨by rw [HE.out, if_neg h8]; rfl, HB.out⟩
end Go.Proofs.Ytdennnlfjkphlaa

/- Run. -/
namespace Go.Proofs.Ytdennnlfjkphlaa
open Go.RowKit

/-- What comes of a program, in at most f steps from instruction p on, the number being x, d steps being done: what is returned, and in how many steps. -/
def runR (L : Nat → IN) (c : CL) : Nat → Nat → Nat → Nat → Nat × Nat
  | 0, _, _, _ => (0, 0)
  | f + 1, p, x, d =>
    if (L p).op = 8 then ((L p).k, d + 1)
    else if (L p).op = 1 then runR L c f (p + 1) (wordN c ((L p).k / 4)) (d + 1)
    else if (L p).op = 2 then runR L c f (p + 1) (x &&& (L p).k) (d + 1)
    else runR L c f (p + 1 + (skipI (L p) x).toNat) x (d + 1)

/-- What an instruction that is right is like. -/
theorem fine_ins {x : IN} {m : Nat} (h : faultI x m = 0) : 1 ≤ x.op ∧ x.op ≤ 8 ∧ 0 ≤ x.jt ∧ x.jt ≤ 255 ∧ 0 ≤ x.jf ∧ x.jf ≤ 255 ∧ (¬ (4 ≤ x.op ∧ x.op ≤ 7) → x.jt = 0 ∧ x.jf = 0) ∧ (x.op = 1 → placeB x.k = true) ∧ (x.op = 3 → x.k < m) ∧ (4 ≤ x.op ∧ x.op ≤ 7 → x.jt < m ∧ x.jf < m) := by
  obtain ⟨op, jt, jf, k⟩ := x
  unfold faultI at h
  simp only at h ⊢
  split at h
  · cases h
  rename_i h1
  split at h
  · cases h
  rename_i h2
  split at h
  · cases h
  rename_i h3
  simp only [skipB, branchB, Bool.or_eq_true, Bool.and_eq_true, Bool.not_eq_true', decide_eq_true_eq, Bool.and_eq_false_iff, decide_eq_false_iff_not, bne_iff_ne, beq_iff_eq, not_or, not_and] at h1 h2 h3
  refine ⟨by omega, by omega, by omega, by omega, by omega, by omega, by omega, fun e => ?_, by omega, by omega⟩
  have := h3.1.1 e
  simpa using this
structure Fit (n : Nat) (L : Nat → IN) : Prop where
  pos : 0 < n
  most : n ≤ 4096
  each : ∀ i, i < n → faultI (L i) (n - 1 - i) = 0
  last : (L (n - 1)).op = 8
theorem fit_of {n : Nat} {L : Nat → IN} (h : checkR n L = 0) : Fit n L := by
  unfold checkR at h
  split at h
  · cases h
  rename_i h1
  split at h
  · rename_i h2
    split at h
    · rename_i h3
      exact ⟨by omega, by omega, faultTo_each h2, h3⟩
    · cases h
  · rename_i h2
    exact absurd h h2
theorem Fit.next {n : Nat} {L : Nat → IN} (h : Fit n L) {p : Nat} (hp : p < n) (h8 : (L p).op ≠ 8) : p + 1 < n := by
  rcases Nat.lt_or_ge (p + 1) n with h1 | h1
  · exact h1
  · exact absurd (by rw [show p = n - 1 by omega]; exact h.last) h8
theorem Fit.skip {n : Nat} {L : Nat → IN} (h : Fit n L) {p : Nat} (hp : p < n) (h8 : (L p).op ≠ 8) (h1 : (L p).op ≠ 1) (h2 : (L p).op ≠ 2) (x : Nat) : 0 ≤ skipI (L p) x ∧ p + 1 + (skipI (L p) x).toNat < n := by
  have hf := fine_ins (h.each p hp)
  have hk := h.next hp h8
  unfold skipI
  split
  · rename_i h3
    rw [beq_iff_eq] at h3
    have := hf.2.2.2.2.2.2.2.2.1 h3
    omega
  · rename_i h3
    rw [beq_iff_eq] at h3
    have := hf.2.2.2.2.2.2.2.2.2 (by omega)
    split <;> omega

theorem wordN_lt (c : CL) (hc : ClOk c) (i : Nat) : wordN c i < 4294967296 := by
  obtain ⟨h1, h2, h3, h4, h5, h6⟩ := hc
  match i with
  | 0 => exact h2
  | 1 => exact h1
  | 2 => exact Nat.mod_lt _ (by decide)
  | 3 => simp only [wordN]; omega
  | 4 => exact Nat.mod_lt _ (by decide)
  | 5 => simp only [wordN]; omega
  | 6 => exact Nat.mod_lt _ (by decide)
  | 7 => simp only [wordN]; omega
  | 8 => exact Nat.mod_lt _ (by decide)
  | 9 => simp only [wordN]; omega
  | n + 10 => exact Nat.zero_lt_succ _

/-- A call lies in block g. -/
structure CallAt (W : World) (g : Nat) (c : CL) : Prop where
  k0 : W.cell? ⟨g, 0, none⟩ = some (.int .u32 c.arch)
  k1 : W.cell? ⟨g, 1, none⟩ = some (.int .u32 c.nr)
  k2 : W.cell? ⟨g, 2, none⟩ = some (.int .u64 c.a0)
  k3 : W.cell? ⟨g, 3, none⟩ = some (.int .u64 c.a1)
  k4 : W.cell? ⟨g, 4, none⟩ = some (.int .u64 c.a2)
  k5 : W.cell? ⟨g, 5, none⟩ = some (.int .u64 c.a3)
theorem CallAt.on {W V : World} {g : Nat} {c : CL} (h : CallAt W g c) (hc : ∀ j, V.cell? ⟨g, j, none⟩ = W.cell? ⟨g, j, none⟩) : CallAt V g c :=
  ⟨(hc _).trans h.k0, (hc _).trans h.k1, (hc _).trans h.k2, (hc _).trans h.k3, (hc _).trans h.k4, (hc _).trans h.k5⟩
theorem call_boxed (W : World) (c : CL) : CallAt (W.alloc (.cells #[.int .u32 c.arch, .int .u32 c.nr, .int .u64 c.a0, .int .u64 c.a1, .int .u64 c.a2, .int .u64 c.a3] 46)) W.heap.size c := by
  have h := fun i => cell_of_row (W.alloc (.cells #[.int .u32 c.arch, .int .u32 c.nr, .int .u64 c.a0, .int .u64 c.a1, .int .u64 c.a2, .int .u64 c.a3] 46)) W.heap.size i _ _ _ (heap_alloc_new W _)
  exact ⟨h 0, h 1, h 2, h 3, h 4, h 5⟩

theorem run_bad (oa : Option Addr) (n cap : Nat) (hn : n ≤ 9223372036854775807) (L : Nat → IN) (c : CL) (w : World) (h : IsProg oa n L w) (hf : checkR n L ≠ 0) :
    Calls Try.prog 47 #[.slice oa n cap, callV c] w fun e w' => e = .returned (.tuple #[.int .u32 0, .int .i64 0, errV (checkR n L)]) ∧ Below w.heap.size w w' := by
  unfold callV
  obtain ⟨W0, hW0⟩ : ∃ W0, W0 = w.alloc (.cells #[.int .u32 c.arch, .int .u32 c.nr, .int .u64 c.a0, .int .u64 c.a1, .int .u64 c.a2, .int .u64 c.a3] 46) := ⟨_, rfl⟩
  have hb0 : Below w.heap.size w W0 := by rw [hW0]; exact box_below _ _
  have HC := check_any oa n cap hn L W0 (h.on hb0)
  rw [errV_pos hf] at HC ⊢
  have HW := hide hW0
  rw [hW0] at HC
  clear hW0 h
  go_enter Try.func47, Try.ntmps47
  go_wp2_with (go_at_call 48; refine HC.mono ?_; rintro e w' ⟨rfl, hb⟩)
  go_ret3
  exact ⟨rfl, below_next (by rw [← HW.out]; exact hb0) hb⟩

set_option maxHeartbeats 2000000 in
theorem run_ok (oa : Option Addr) (n cap : Nat) (L : Nat → IN) (c : CL) (hc : ClOk c) (w : World) (h : IsProg oa n L w) (hf : checkR n L = 0) :
    Calls Try.prog 47 #[.slice oa n cap, callV c] w fun e w' => e = .returned (.tuple #[.int .u32 (runR L c n 0 0 0).1, .int .i64 (runR L c n 0 0 0).2, .nilIface]) ∧ Below w.heap.size w w' := by
  have HF := hide (fit_of hf)
  have hpos := HF.out.pos
  have hmost := HF.out.most
  unfold callV
  obtain ⟨W0, hW0⟩ : ∃ W0, W0 = w.alloc (.cells #[.int .u32 c.arch, .int .u32 c.nr, .int .u64 c.a0, .int .u64 c.a1, .int .u64 c.a2, .int .u64 c.a3] 46) := ⟨_, rfl⟩
  have hb0 : Below w.heap.size w W0 := by rw [hW0]; exact box_below _ _
  have hC0 : CallAt W0 w.heap.size c := by rw [hW0]; exact call_boxed w c
  have hg0 : w.heap.size < W0.heap.size := by rw [hW0]; simp
  have HC := check_any oa n cap (by omega) L W0 (h.on hb0)
  rw [hf, errV_zero] at HC
  rw [hW0] at HC
  obtain ⟨b, off, rfl, hb, hA0⟩ := h.lie hpos
  have HA := hide (show ∀ i, i < n → InsAt W0 b (off + i * 4) (L i) from fun i hi => (hA0 i hi).on fun j => (bcell hb0).1 b j hb)
  obtain ⟨g, hg⟩ : ∃ g, g = w.heap.size := ⟨_, rfl⟩
  rw [← hg] at hb hb0 hC0 hg0
  obtain ⟨R, hR⟩ : ∃ R, R = runR L c n 0 0 0 := ⟨_, rfl⟩
  rw [← hR]
  replace hR := hide hR
  have HW := hide hW0
  have HCL := hide hC0
  have HB0 := hide hb0
  clear hW0 h hA0 hf hC0 hb0
  go_enter Try.func47, Try.ntmps47
  go_wp2_with (go_at_call 48; refine HC.mono ?_; rintro e w1 ⟨rfl, hb1⟩)
  rw [← hg]
  rw [← HW.out] at hb1
  replace hb1 := hide hb1
  clear HC
  replace hg := hide hg
  go_loopw [8, 9, 21] (fun N P I w' => ∃ d p x : Nat, d ≤ n ∧ N = .int .u32 x ∧ P = .int .i64 p ∧ I = .int .i64 d ∧ p < n ∧ Hid (x < 4294967296) ∧ Hid (d ≤ p) ∧ Hid (runR L c (n - d) p x d = R) ∧ Hid (Below W0.heap.size W0 w')) (fun _ _ I _ => n - (intOf I).toNat)
  case atStart => exact ⟨0, 0, 0, by omega, rfl, rfl, rfl, hpos, hide (by decide), hide (Nat.le_refl _), hide hR.out.symm, hb1⟩
  case round =>
    obtain ⟨d, p, x, hd, rfl, rfl, rfl, hp, HX, HD, HR, HB⟩ := hrel
    have hdn : d < n := by have := HD.out; omega
    have hI := (HA.out p hp).on fun j => (bcell HB.out).1 b j (by omega)
    have hCa := HCL.out.on fun j => (bcell HB.out).1 g j hg0
    have HN := hide (fun h8 => HF.out.next hp h8)
    have HS := hide (fun h8 h1 h2 => HF.out.skip hp h8 h1 h2 x)
    have HE := hide (fine_ins (HF.out.each p hp))
    have hgw : g < wr.heap.size := Nat.lt_of_lt_of_le hg0 HB.out.size
    have hok := hI.ok
    have hRR := HR.out
    rw [show n - d = (n - d - 1) + 1 by omega, runR, show n - d - 1 = n - (d + 1) by omega] at hRR
    obtain ⟨y, hy⟩ : ∃ y, y = L p := ⟨_, rfl⟩
    rw [← hy] at hI HN HS HE hok hRR
    clear hy HR
    obtain ⟨c0, c1, c2, c3, _⟩ := hI
    obtain ⟨q0, q1, q2, q3, q4, q5⟩ := hCa
    by_cases h8 : y.op = 8
    · rw [if_pos h8] at hRR
      replace hRR := hide hRR
      obtain ⟨op, jt, jf, k⟩ := y
      simp only at h8 c0 c1 c2 c3
      subst h8
      clear HN HS HE hok q0 q1 q2 q3 q4 q5
      go_wp2
      go_ret3
      exact ⟨by rw [← hRR.out]; rfl, (by rw [← hg.out]; exact HB0.out.trans ((HB.out.trans ((box_below wr _).mono HB.out.size)).mono (Nat.le_of_lt hg0)))⟩
    by_cases h1 : y.op = 1
    · rw [if_neg h8, if_pos h1] at hRR
      replace hRR := hide hRR
      have HWd := word_ok c hc y.k (HE.out.2.2.2.2.2.2.2.1 h1)
      have hnx := HN.out h8
      obtain ⟨op, jt, jf, k⟩ := y
      simp only at h1 c0 c1 c2 c3 HWd
      subst h1
      unfold callV at HWd
      clear HN HS HE h8 hok
      go_wp2_with (go_at_call 43; refine (HWd _).mono ?_; rintro e w2 ⟨rfl, hb2⟩)
      go_round
      case rel => exact ⟨d + 1, p + 1, _, by omega, rfl, by go_num, by go_num, hnx, hide (wordN_lt c hc _), hide (by have := HD.out; omega), hRR, hide (below_next (below_next HB.out (box_below wr _)) hb2)⟩
      case measure => simp [intOf]; omega
    by_cases h2 : y.op = 2
    · rw [if_neg h8, if_neg h1, if_pos h2] at hRR
      replace hRR := hide hRR
      have hnx := HN.out h8
      have hbit := u32_and_nat x y.k HX.out hok.k2
      obtain ⟨op, jt, jf, k⟩ := y
      simp only at h2 c0 c1 c2 c3 hbit
      subst h2
      have HL := hide (show x &&& k < 4294967296 from Nat.lt_of_le_of_lt Nat.and_le_left HX.out)
      clear HN HS HE h8 h1 hok q0 q1 q2 q3 q4 q5
      go_wp2
      go_round
      case rel => exact ⟨d + 1, p + 1, _, by omega, rfl, by go_num, by go_num, hnx, HL, hide (by have := HD.out; omega), hRR, hide (below_next HB.out (box_below wr _))⟩
      case measure => simp [intOf]; omega
    · rw [if_neg h8, if_neg h1, if_neg h2] at hRR
      replace hRR := hide hRR
      obtain ⟨hs0, hs1⟩ := HS.out h8 h1 h2
      have HSk := skip_any y hok x HX.out
      obtain ⟨sk, hsk⟩ : ∃ sk, sk = (skipI y x).toNat := ⟨_, rfl⟩
      rw [← hsk] at hs1
      rw [show skipI y x = (sk : Int) by omega] at HSk
      replace hRR := hide (by have := hRR.out; rw [← hsk] at this; exact this)
      obtain ⟨op, jt, jf, k⟩ := y
      simp only at h8 h1 h2 c0 c1 c2 c3 HSk
      unfold insV at HSk
      simp only at HSk
      clear HN HS HE hok q0 q1 q2 q3 q4 q5 hs0 hsk
      have d8 : (op == 8) = false := by rw [beq_eq_false_iff_ne]; exact h8
      have d1 : (op == 1) = false := by rw [beq_eq_false_iff_ne]; exact h1
      have d2 : (op == 2) = false := by rw [beq_eq_false_iff_ne]; exact h2
      clear h8 h1 h2
      go_wp2_with (go_at_call 67; refine (HSk _).mono ?_; rintro e w2 ⟨rfl, hb2⟩)
      go_round
      case rel => exact ⟨d + 1, p + 1 + sk, x, by omega, rfl, by go_num, by go_num, hs1, HX, hide (by have := HD.out; omega), hRR, hide (below_next (below_next HB.out (box_below wr _)) hb2)⟩
      case measure => simp [intOf]; omega
end Go.Proofs.Ytdennnlfjkphlaa

/- The walk of the law TopBpf. -/
namespace Go.Proofs.Ytdennnlfjkphlaa
open Go.RowKit

/-- A program that is right ends at one of its Rets, in no more steps than are left. -/
theorem run_ends {n : Nat} {L : Nat → IN} (h : Fit n L) (c : CL) : ∀ f p x d, p < n → n - p ≤ f → (∃ i, i < n ∧ (L i).op = 8 ∧ (L i).k = (runR L c f p x d).1) ∧ d + 1 ≤ (runR L c f p x d).2 ∧ (runR L c f p x d).2 ≤ d + (n - p)
  | 0, p, x, d, hp, hf => by omega
  | f + 1, p, x, d, hp, hf => by
    rw [runR]
    by_cases h8 : (L p).op = 8
    · rw [if_pos h8]
      exact ⟨⟨p, hp, h8, rfl⟩, Nat.le_refl _, by show d + 1 ≤ _; omega⟩
    rw [if_neg h8]
    have hk := h.next hp h8
    by_cases h1 : (L p).op = 1
    · rw [if_pos h1]
      obtain ⟨a, b, e⟩ := run_ends h c f (p + 1) (wordN c ((L p).k / 4)) (d + 1) hk (by omega)
      exact ⟨a, by omega, by omega⟩
    rw [if_neg h1]
    by_cases h2 : (L p).op = 2
    · rw [if_pos h2]
      obtain ⟨a, b, e⟩ := run_ends h c f (p + 1) (x &&& (L p).k) (d + 1) hk (by omega)
      exact ⟨a, by omega, by omega⟩
    rw [if_neg h2]
    obtain ⟨_, hs⟩ := h.skip hp h8 h1 h2 x
    obtain ⟨a, b, e⟩ := run_ends h c f (p + 1 + (skipI (L p) x).toNat) x (d + 1) hs (by omega)
    exact ⟨a, by omega, by omega⟩

/-- Is one of the first i a Ret that has k? -/
def foundTo (L : Nat → IN) (k : Nat) : Nat → Bool
  | 0 => false
  | i + 1 => foundTo L k i || ((L i).op == 8 && ((L i).k : Int) == (k : Int))
theorem foundTo_of {L : Nat → IN} {k i : Nat} (h8 : (L i).op = 8) (hk : (L i).k = k) : ∀ n, i < n → foundTo L k n = true
  | n + 1, hn => by
    rw [foundTo]
    by_cases h : i = n
    · subst h; simp [h8, hk]
    · rw [foundTo_of h8 hk n (by omega)]; rfl

theorem topBpf_long (oa : Option Addr) (n cap : Nat) (c : CL) (hn : 300 < n) (w : World) :
    Calls Try.prog 9 #[.slice oa n cap, callV c] w fun e w' => e = .returned (.bool true) ∧ Below w.heap.size w w' := by
  unfold callV
  go_enter Try.func9, Try.ntmps9
  go_wp2
  go_ret
  exact ⟨rfl, box_below _ _⟩
theorem topBpf_bad (oa : Option Addr) (n cap : Nat) (L : Nat → IN) (c : CL) (hn : n ≤ 300) (w : World) (h : IsProg oa n L w) (hf : checkR n L ≠ 0) :
    Calls Try.prog 9 #[.slice oa n cap, callV c] w fun e w' => e = .returned (.bool true) ∧ Below w.heap.size w w' := by
  have H := hide h
  have HR := fun w h => run_bad oa n cap (by omega) L c w h hf
  have HC := fun w h => check_any oa n cap (by omega) L w h
  rw [errV_pos hf] at HR HC
  unfold callV at HR ⊢
  clear h
  have dn : decide ((300 : Int) < (n : Int)) = false := by simp; omega
  go_enter Try.func9, Try.ntmps9
  go_wp2_with fail
  refine (HR _ (H.out.on (box_below _ _))).mono ?_
  rintro e w1 ⟨rfl, hb1⟩
  replace hb1 := hide (below_next (box_below _ _) hb1)
  go_wp2_with fail
  refine (HC _ (H.out.on hb1.out)).mono ?_
  rintro e w2 ⟨rfl, hb2⟩
  go_wp2
  go_ret
  exact ⟨rfl, below_next hb1.out hb2⟩

theorem topBpf_ok (oa : Option Addr) (n cap : Nat) (L : Nat → IN) (c : CL) (hc : ClOk c) (hn : n ≤ 300) (w : World) (h : IsProg oa n L w) (hf : checkR n L = 0) :
    Calls Try.prog 9 #[.slice oa n cap, callV c] w fun e w' => e = .returned (.bool true) ∧ Below w.heap.size w w' := by
  have HR := fun w h => run_ok oa n cap L c hc w h hf
  have HC := fun w h => check_any oa n cap (by omega) L w h
  have hpos := (fit_of hf).pos
  obtain ⟨⟨i0, hi0, h8, hk⟩, hs1, hs2⟩ := run_ends (fit_of hf) c n 0 0 0 hpos (by omega)
  obtain ⟨R, hR⟩ : ∃ R, R = runR L c n 0 0 0 := ⟨_, rfl⟩
  rw [← hR] at HR hk hs1 hs2
  rw [hf, errV_zero] at HC
  have HFD := hide (foundTo_of h8 hk n hi0)
  clear hR hf h8 hk hi0
  obtain ⟨k, s⟩ := R
  simp only at HR hs1 hs2 HFD
  obtain ⟨b, off, rfl, hb, hA0⟩ := h.lie hpos
  have HA := hide hA0
  have H := hide h
  unfold callV at HR ⊢
  clear h hA0
  have dn : decide ((300 : Int) < (n : Int)) = false := by simp; omega
  go_enter Try.func9, Try.ntmps9
  go_wp2_with fail
  refine (HR _ (H.out.on (box_below _ _))).mono ?_
  rintro e w1 ⟨rfl, hb1⟩
  replace hb1 := hide (below_next (box_below _ _) hb1)
  go_wp2_with fail
  refine (HC _ (H.out.on hb1.out)).mono ?_
  rintro e w2 ⟨rfl, hb2⟩
  replace hb2 := hide (below_next hb1.out hb2)
  clear hb1 HR HC
  go_wp2
  go_loopw [8, 9] (fun F I w' => ∃ i : Nat, i ≤ n ∧ F = .bool (foundTo L k i) ∧ I = .int .i64 i ∧ w' = w2) (fun _ I _ => n - (intOf I).toNat)
  case atStart => exact ⟨0, by omega, rfl, rfl, rfl⟩
  case round =>
    obtain ⟨i, hi, rfl, rfl, rfl⟩ := hrel
    by_cases hlt : i < n
    · have hI := (HA.out i hlt).on fun j => (bcell hb2.out).1 b j hb
      obtain ⟨c0, c1, c2, c3, _⟩ := hI
      have HQ := hide (show foundTo L k (i + 1) = (foundTo L k i || ((L i).op == 8 && ((L i).k : Int) == (k : Int))) from rfl)
      cases hfi : foundTo L k i with
      | true =>
        rw [hfi] at HQ
        clear c0 c1 c2 c3
        go_wp2
        go_round
        case rel => exact ⟨i + 1, by omega, by rw [HQ.out]; rfl, by go_num, trivial⟩
        case measure => simp [intOf]; omega
      | false =>
        rw [hfi] at HQ
        clear hfi
        cases h8 : (L i).op == 8 with
        | true =>
          rw [h8] at HQ
          go_wp2
          go_round
          case rel => exact ⟨i + 1, by omega, by rw [HQ.out]; rfl, by go_num, trivial⟩
          case measure => simp [intOf]; omega
        | false =>
          rw [h8] at HQ
          go_wp2
          go_round
          case rel => exact ⟨i + 1, by omega, by rw [HQ.out]; rfl, by go_num, trivial⟩
          case measure => simp [intOf]; omega
    · obtain rfl : i = n := by omega
      rw [HFD.out]
      go_wp2
      go_ret
      exact ⟨rfl, hb2.out⟩

theorem topBpf_any (oa : Option Addr) (n cap : Nat) (hm : n ≤ 9223372036854775807) (L : Nat → IN) (c : CL) (hc : ClOk c) (w : World) (h : IsProg oa n L w) :
    Calls Try.prog 9 #[.slice oa n cap, callV c] w fun e w' => e = .returned (.bool true) ∧ Below w.heap.size w w' := by
  by_cases hn : 300 < n
  · exact topBpf_long oa n cap c hn w
  by_cases hf : checkR n L = 0
  · exact topBpf_ok oa n cap L c hc (by omega) w h hf
  · exact topBpf_bad oa n cap L c (by omega) w h hf
end Go.Proofs.Ytdennnlfjkphlaa

/- The last step of a law's row: what 'post' asks, out of 'Below' (nothing that was there has turned), without the limb on frozen cells that 'again' alone wants. -/
namespace Go.Proofs.Ytdennnlfjkphlaa
open Go.ChangeShapes Go.WideShapes Go.ChangeAt Go.RowKit

theorem post_law {H : Type} {enc : TypeId × Value → H} {P : Program} {f : Func} {s : ChangeSpec} {apart fresh handsOn : Bool} {W W' : World} {args : Array Value} {v : Value} {ds gs : List (DataW H)} {before pa pv : List MemPlace}
    (hW : DataW.Whole enc P f.params.toList s.vars apart W args.toList ds gs before)
    (hres : ∀ (b : Nat) (sp : Nat → Bool) (hd : Bool), DataW.TrodAll enc P W' b sp hd f.resultTypes.toList (v.resultList f.resultTypes.size) (s.fn H (ds ++ gs)).results [])
    (hargs : ∀ sp : Nat → Bool, (∀ p ∈ before, sp p.block = true) → DataW.TrodAll enc P W' 0 sp true f.params.toList args.toList (s.fn H (ds ++ gs)).args pa)
    (hvars : ∀ sp : Nat → Bool, (∀ p ∈ before, sp p.block = true) → DataW.TrodVars enc P W' sp s.vars (s.fn H (ds ++ gs)).vars pv)
    (hps : before = pa ++ pv) (hk : Below W.heap.size W W') :
    s.post enc P f apart fresh handsOn false W args v W' := by
  have hold : ∀ p ∈ before, (fun b => decide (b < W.heap.size)) p.block = true := fun p hp => by simpa using hW.lt p hp
  refine ⟨ds, gs, before, [], pa, pv, hW, hres _ _ _, hargs _ hold, hvars _ hold, World.keptBut_mono (fun p hp => ⟨hp, ?_⟩) (hk.frame (· ∈ before)), fun h => by cases h⟩
  rw [hps, List.mem_append] at hp
  exact Or.inr hp
end Go.Proofs.Ytdennnlfjkphlaa

/- What the rows over slices of structs need besides: the last step, and cells of elements. -/
namespace Go.Proofs.Ytdennnlfjkphlaa
open Go.ChangeShapes Go.WideShapes Go.ChangeAt Go.RowKit Go.WideMaps Go.WideElems

theorem own : ownKnob Try.prog.godebug = none := by kernel_rfl
theorem laidOut : laidOutB Try.prog = true := by kernel_rfl

/-- 'post_law', the arguments read again under the one mode that is asked. -/
theorem post_law' {H : Type} {enc : TypeId × Value → H} {P : Program} {f : Func} {s : ChangeSpec} {apart fresh handsOn : Bool} {W W' : World} {args : Array Value} {v : Value} {ds gs : List (DataW H)} {before pa pv : List MemPlace}
    (hW : DataW.Whole enc P f.params.toList s.vars apart W args.toList ds gs before)
    (hres : ∀ (b : Nat) (sp : Nat → Bool) (hd : Bool), DataW.TrodAll enc P W' b sp hd f.resultTypes.toList (v.resultList f.resultTypes.size) (s.fn H (ds ++ gs)).results [])
    (hargs : DataW.TrodAll enc P W' 0 (fun b => decide (b < W.heap.size)) true f.params.toList args.toList (s.fn H (ds ++ gs)).args pa)
    (hvars : ∀ sp : Nat → Bool, (∀ p ∈ before, sp p.block = true) → DataW.TrodVars enc P W' sp s.vars (s.fn H (ds ++ gs)).vars pv)
    (hps : before = pa ++ pv) (hk : Below W.heap.size W W') :
    s.post enc P f apart fresh handsOn false W args v W' := by
  have hold : ∀ p ∈ before, (fun b => decide (b < W.heap.size)) p.block = true := fun p hp => by simpa using hW.lt p hp
  refine ⟨ds, gs, before, [], pa, pv, hW, hres _ _ _, hargs, hvars _ hold, World.keptBut_mono (fun p hp => ⟨hp, ?_⟩) (hk.frame (· ∈ before)), fun h => by cases h⟩
  rw [hps, List.mem_append] at hp
  exact Or.inr hp

theorem u64_wf {n : Int} (h : (Lit.int .u64 n).wf = true) : ∃ k : Nat, n = k ∧ k < 18446744073709551616 := by
  simp [Lit.wf, IntKind.min, IntKind.max, IntKind.signed, IntKind.bits] at h
  exact ⟨n.toNat, by omega, by omega⟩
theorem i64_wf {n : Int} (h : (Lit.int .i64 n).wf = true) : -9223372036854775808 ≤ n ∧ n ≤ 9223372036854775807 := by
  simp [Lit.wf, IntKind.min, IntKind.max, IntKind.signed, IntKind.bits] at h
  omega

theorem u32_wf {n : Int} (h : (Lit.int .u32 n).wf = true) : ∃ k : Nat, n = k ∧ k < 4294967296 := by
  simp [Lit.wf, IntKind.min, IntKind.max, IntKind.signed, IntKind.bits] at h
  exact ⟨n.toNat, by omega, by omega⟩

/-- The cells of element i of a slice at a plain address. -/
theorem elem_cells {w : World} {b off k i : Nat} {cs : List Value} (h : w.cells? 0 ((⟨b, off, none⟩ : Addr).add (i * k)) k = some cs) (j : Nat) (hj : j < k) : w.cell? ⟨b, off + i * k + j, none⟩ = cs[j]? := by
  have hc := (World.cells?_some h).2.2 j hj
  rw [Go.Deep.add_add, add_plain] at hc
  rw [show off + i * k + j = off + (i * k + j) by omega]
  exact hc

end Go.Proofs.Ytdennnlfjkphlaa

/- Programs and calls that came in, opened. -/
namespace Go.Proofs.Ytdennnlfjkphlaa
open Go.ChangeShapes Go.WideShapes Go.ChangeAt Go.RowKit Go.WideMaps Go.WideElems

theorem ins_fields : ∃ f0 f1 f2 f3 : Field, Try.prog.underlying 78 = some (.struct #[f0, f1, f2, f3]) ∧ (f0.type = 3 ∧ f1.type = 3 ∧ f2.type = 3 ∧ f3.type = 43) ∧ (f0.offset = 0 ∧ f1.offset = 1 ∧ f2.offset = 2 ∧ f3.offset = 3) :=
  ⟨_, _, _, _, Try.underlying78, ⟨by kernel_rfl, by kernel_rfl, by kernel_rfl, by kernel_rfl⟩, by kernel_rfl, by kernel_rfl, by kernel_rfl, by kernel_rfl⟩
theorem call_fields : ∃ f0 f1 f2 : Field, Try.prog.underlying 46 = some (.struct #[f0, f1, f2]) ∧ (f0.type = 43 ∧ f1.type = 43 ∧ f2.type = 44) ∧ (f0.offset = 0 ∧ f1.offset = 1 ∧ f2.offset = 2) :=
  ⟨_, _, _, Try.underlying46, ⟨by kernel_rfl, by kernel_rfl, by kernel_rfl⟩, by kernel_rfl, by kernel_rfl, by kernel_rfl⟩
theorem cells_ins : Try.prog.cellsOf 78 = 4 := by kernel_rfl
theorem cells_call : Try.prog.cellsOf 46 = 6 := by kernel_rfl
theorem cells_i : Try.prog.cellsOf 3 = 1 := by kernel_rfl
theorem cells_32 : Try.prog.cellsOf 43 = 1 := by kernel_rfl
theorem cells_64 : Try.prog.cellsOf 42 = 1 := by kernel_rfl
theorem cells_arr4 : Try.prog.cellsOf 44 = 4 := by kernel_rfl

theorem list4 {α : Type} {l : List α} (h : l.length = 4) : ∃ a0 a1 a2 a3, l = [a0, a1, a2, a3] := by
  match l, h with
  | [a0, a1, a2, a3], _ => exact ⟨a0, a1, a2, a3, rfl⟩
theorem array6 {α : Type} {l : Array α} (h : l.size = 6) : ∃ a0 a1 a2 a3 a4 a5, l = #[a0, a1, a2, a3, a4, a5] := by
  obtain ⟨l⟩ := l
  match l, h with
  | [a0, a1, a2, a3, a4, a5], _ => exact ⟨a0, a1, a2, a3, a4, a5, rfl⟩

theorem ins_read {H : Type} {enc : TypeId × Value → H} {w : World} {base : Nat} {spare : Nat → Bool} {held : Bool} {n : Nat} {cs : List Value} {x : DataW H × List MemPlace} (h : DataW.trod enc Try.prog w base spare held n 78 cs = some x) :
    ∃ y : IN, cs = [.int .i64 y.op, .int .i64 y.jt, .int .i64 y.jf, .int .u32 y.k] ∧ InOk y := by
  obtain ⟨f0, f1, f2, f3, hu, ⟨t0, t1, t2, t3⟩, o0, o1, o2, o3⟩ := ins_fields
  obtain ⟨xs, m, _, _, hl, hlen, hf⟩ := DataW.trod_struct hu h
  rw [cells_ins] at hl
  obtain ⟨a0, a1, a2, a3, rfl⟩ := list4 hl
  have g0 := hf 0 f0 rfl
  have g1 := hf 1 f1 rfl
  have g2 := hf 2 f2 rfl
  have g3 := hf 3 f3 rfl
  have hlt : xs.length = 4 := hlen
  rw [t0, o0, cells_i, List.getElem?_eq_getElem (by omega)] at g0
  rw [t1, o1, cells_i, List.getElem?_eq_getElem (by omega)] at g1
  rw [t2, o2, cells_i, List.getElem?_eq_getElem (by omega)] at g2
  rw [t3, o3, cells_32, List.getElem?_eq_getElem (by omega)] at g3
  obtain ⟨s0, q0, _, w0⟩ := DataW.trod_int Try.underlying3 g0
  obtain ⟨s1, q1, _, w1⟩ := DataW.trod_int Try.underlying3 g1
  obtain ⟨s2, q2, _, w2⟩ := DataW.trod_int Try.underlying3 g2
  obtain ⟨s3, q3, _, w3⟩ := DataW.trod_int Try.underlying43 g3
  simp at q0 q1 q2 q3
  obtain ⟨k3, rfl, hk3⟩ := u32_wf w3
  subst q0 q1 q2 q3
  exact ⟨⟨s0, s1, s2, k3⟩, rfl, ⟨(i64_wf w0).1, (i64_wf w0).2, (i64_wf w1).1, (i64_wf w1).2, (i64_wf w2).1, (i64_wf w2).2, hk3⟩⟩

set_option maxRecDepth 100000 in
/-- A program that came in, opened. -/
theorem open_prog {H : Type} {enc : TypeId × Value → H} {W : World} {v : Value} {d : DataW H} {p : List MemPlace} {r : Reach} {b0 : Nat} (hv : Value.okWide Try.prog W r b0 76 v) (h : DataW.Trod enc Try.prog W 0 (fun _ => true) true 76 v d p) :
    ∃ (oa : Option Addr) (n cap : Nat) (L : Nat → IN), v = .slice oa n cap ∧ n ≤ cap ∧ cap ≤ maxLen ∧ IsProg oa n L W := by
  obtain ⟨oa, n, cap, rfl⟩ := okWide_slice Try.underlying76 hv
  obtain ⟨fuel, hf⟩ := h
  rcases Go.Deep.open_slice Try.underlying76 hf with ⟨hcs, _⟩ | ⟨a, len, cap', m, fu, D, Pl, hcs, _, hl, hm, hmm, _, hx⟩
  · simp only [Value.cells, List.cons.injEq, Value.slice.injEq, and_true] at hcs
    obtain ⟨rfl, rfl, rfl⟩ := hcs
    exact ⟨none, 0, 0, fun _ => ⟨0, 0, 0, 0⟩, rfl, Nat.le_refl _, Nat.zero_le _, ⟨fun h0 => absurd h0 (Nat.lt_irrefl 0)⟩⟩
  · simp only [Value.cells, List.cons.injEq, Value.slice.injEq, and_true] at hcs
    obtain ⟨rfl, rfl, rfl⟩ := hcs
    rw [if_pos rfl] at hmm
    subst hmm
    rw [cells_ins] at hx
    have hy : ∀ i, i < n → ∃ y : IN, ∃ cs', W.cells? 0 (a.add (i * 4)) 4 = some cs' ∧ cs' = [.int .i64 y.op, .int .i64 y.jt, .int .i64 y.jf, .int .u32 y.k] ∧ InOk y := fun i hi => by
      obtain ⟨cs', h1, h2⟩ := hx i (by omega)
      obtain ⟨y, h3, h4⟩ := ins_read h2
      exact ⟨y, cs', h1, h3, h4⟩
    haveI : Inhabited IN := ⟨⟨0, 0, 0, 0⟩⟩
    obtain ⟨L, hL⟩ := Go.Deep.choose_lt hy
    refine ⟨some a, n, m, L, rfl, hl, hm, ⟨fun h0 => ?_⟩⟩
    obtain ⟨b, off, spot⟩ := a
    obtain ⟨cs0, k1, k2, _⟩ := hL 0 h0
    have hc0 := (World.cells?_some k1).2.2 0 (by omega)
    rw [k2] at hc0
    have hspot : spot = none := by simpa [Addr.add] using World.cell?_spot hc0
    subst hspot
    refine ⟨b, off, rfl, World.cells?_block (by rw [Nat.zero_mul] at k1; simpa [Addr.add] using k1) (by omega : 0 < 4), fun i hi => ?_⟩
    obtain ⟨cs', k1, rfl, k3⟩ := hL i hi
    exact ⟨elem_cells k1 0 (by omega), elem_cells k1 1 (by omega), elem_cells k1 2 (by omega), elem_cells k1 3 (by omega), k3⟩

set_option maxRecDepth 100000 in
/-- A call that came in, opened. -/
theorem open_call {H : Type} {enc : TypeId × Value → H} {w : World} {base : Nat} {spare : Nat → Bool} {held : Bool} {r : Reach} {b0 : Nat} {v : Value} {d : DataW H} {p : List MemPlace} (hv : Value.okWide Try.prog w r b0 46 v) (h : DataW.Trod enc Try.prog w base spare held 46 v d p) :
    ∃ c : CL, v = callV c ∧ ClOk c := by
  obtain ⟨f0, f1, f2, hu, ⟨t0, t1, t2⟩, o0, o1, o2⟩ := call_fields
  obtain ⟨cs, rfl, hsz⟩ := okWide_struct hu hv
  obtain ⟨a0, a1, a2, a3, a4, a5, rfl⟩ := array6 (hsz.trans cells_call)
  obtain ⟨fuel, hf⟩ := h
  obtain ⟨xs, m, _, _, hl, hlen, hf⟩ := DataW.trod_struct hu hf
  have g0 := hf 0 f0 rfl
  have g1 := hf 1 f1 rfl
  have g2 := hf 2 f2 rfl
  have hlt : xs.length = 3 := hlen
  rw [t0, o0, cells_32, List.getElem?_eq_getElem (by omega)] at g0
  rw [t1, o1, cells_32, List.getElem?_eq_getElem (by omega)] at g1
  rw [t2, o2, cells_arr4, List.getElem?_eq_getElem (by omega)] at g2
  obtain ⟨s0, q0, _, w0⟩ := DataW.trod_int Try.underlying43 g0
  obtain ⟨s1, q1, _, w1⟩ := DataW.trod_int Try.underlying43 g1
  obtain ⟨ys, m', _, _, _, hyl, hy⟩ := DataW.trod_array Try.underlying44 g2
  have y0 := hy 0 (by omega)
  have y1 := hy 1 (by omega)
  have y2 := hy 2 (by omega)
  have y3 := hy 3 (by omega)
  rw [cells_64, List.getElem?_eq_getElem (by omega)] at y0 y1 y2 y3
  obtain ⟨s2, q2, _, w2⟩ := DataW.trod_int Try.underlying42 y0
  obtain ⟨s3, q3, _, w3⟩ := DataW.trod_int Try.underlying42 y1
  obtain ⟨s4, q4, _, w4⟩ := DataW.trod_int Try.underlying42 y2
  obtain ⟨s5, q5, _, w5⟩ := DataW.trod_int Try.underlying42 y3
  simp [Value.cells] at q0 q1 q2 q3 q4 q5
  obtain ⟨k0, rfl, h0⟩ := u32_wf w0
  obtain ⟨k1, rfl, h1⟩ := u32_wf w1
  obtain ⟨k2, rfl, h2⟩ := u64_wf w2
  obtain ⟨k3, rfl, h3⟩ := u64_wf w3
  obtain ⟨k4, rfl, h4⟩ := u64_wf w4
  obtain ⟨k5, rfl, h5⟩ := u64_wf w5
  subst q0 q1 q2 q3 q4 q5
  exact ⟨⟨k0, k1, k2, k3, k4, k5⟩, rfl, ⟨h0, h1, h2, h3, h4, h5⟩⟩
end Go.Proofs.Ytdennnlfjkphlaa

namespace Go.Proofs.Ytdennnlfjkphlaa
open Go.ChangeShapes Go.WideShapes Go.ChangeAt Go.RowKit Go.WideMaps Go.WideElems

set_option maxRecDepth 100000 in
theorem topBpf_lifted (os : Os) (started : os.Started) (H : Type) (enc : TypeId × Value → H) :
    ReturnsInHanded {} Try.checked os 9 .any (Rows.topBpfSpec.pre6 enc Try.prog Try.f9 Rows.topBpfRow.domain false) (Rows.topBpfSpec.post enc Try.prog Try.f9 false true false false) := by
  refine returnsInHanded_of_change (C := Try.checked) own started (by kernel_rfl) Try.func9
    (ChangeSpec.witness6 (enc := enc) (C := Try.checked) false ⟨#[], #[.slice none 0 0, .agg #[.int .u32 0, .int .u32 0, .int .u64 0, .int .u64 0, .int .u64 0, .int .u64 0]], []⟩ 8 (by kernel_rfl) (by kernel_rfl) (by kernel_rfl) (by kernel_rfl)) ?_
  intro W base args ds gs before hval0 hW hcnd _
  have hval : ∀ (j : Nat) t v, Try.f9.params[j]? = some t → args[j]? = some v → Value.okWide Try.prog W .any base t v := hval0
  have hW' := hW
  obtain ⟨p, q, hA0, hV, rfl, hfz, hnd⟩ := hW
  have hA : DataW.TrodAll enc Try.prog W 0 (fun _ => true) true Try.f9.params.toList args.toList ds p := hA0
  rw [Try.params9] at hA hval
  obtain ⟨v0, v1, d0, d1, p0, p1, rfl, rfl, rfl, h0, h1⟩ := trodAll_two hA
  obtain ⟨rfl, rfl⟩ := trodVars_none hV
  obtain ⟨oa, n, cap, L, rfl, hn, hcap, hL⟩ := open_prog (hval 0 76 v0 rfl rfl) h0
  obtain ⟨c, rfl, hc⟩ := open_call (hval 1 46 v1 rfl rfl) h1
  clear hA0 hval0
  simp only [List.append_nil] at hW'
  refine (topBpf_any oa n cap (by unfold maxLen at hcap; omega) L c hc W hL).mono fun e W' ⟨he, hb⟩ => ?_
  subst he
  have hlt : ∀ x ∈ p0 ++ p1, x.block < W.heap.size := fun x hx => by simpa using hW'.lt x hx
  exact ⟨_, rfl, post_law' (pa := p0 ++ p1) (pv := []) hW' (fun _ _ _ => trodAll_mk1 (shut_bool Try.underlying4 _))
    (trodAll_mk2 (Below.trod laidOut (by kernel_rfl) (of_decide_eq_true (by kernel_rfl)) h0 hb fun x hx => hlt x (List.mem_append.2 (.inl hx))) (Below.trod laidOut (by kernel_rfl) (of_decide_eq_true (by kernel_rfl)) h1 hb fun x hx => hlt x (List.mem_append.2 (.inr hx)))) (fun _ _ => rfl) (List.append_nil _).symm hb⟩

theorem topBpf_holds : Rows.TopBpfSaid :=
  OpenClaim.holds_of_wide 9 Try.f9 rfl rfl rfl rfl rfl rfl rfl ⟨rfl, rfl, rfl, rfl, rfl⟩ rfl rfl rfl rfl rfl (by kernel_rfl) Try.func9 (by kernel_rfl)
    (of_decide_eq_true (by kernel_rfl)) (by unfold Func.isWrapper; first | (rw [if_pos (by decide +kernel)]; kernel_rfl) | (rw [if_neg (by decide +kernel)]; exact ⟨rfl, rfl⟩))
    (fun os started H enc _ => topBpf_lifted os started H enc)
#print axioms topBpf_holds
end Go.Proofs.Ytdennnlfjkphlaa
