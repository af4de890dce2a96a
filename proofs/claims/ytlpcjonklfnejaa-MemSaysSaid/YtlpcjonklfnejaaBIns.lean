/- Instructions and calls, as values and cells; the small functions of package bpf. -/
import Derived.Test.YtlpcjonklfnejaaBase
import Derived.Laws.BitsAllLaws
namespace Go.Proofs.Ytlpcjonklfnejaa
open Go.RowKit

/-- An instruction. -/
structure IN where
  op : Int
  jt : Int
  jf : Int
  k : Nat
def insV (x : IN) : Value := .agg #[.int .i64 x.op, .int .i64 x.jt, .int .i64 x.jf, .int .u32 x.k]
structure InOk (x : IN) : Prop where
  op1 : -9223372036854775808 ≤ x.op
  op2 : x.op ≤ 9223372036854775807
  jt1 : -9223372036854775808 ≤ x.jt
  jt2 : x.jt ≤ 9223372036854775807
  jf1 : -9223372036854775808 ≤ x.jf
  jf2 : x.jf ≤ 9223372036854775807
  k2 : x.k < 4294967296
/-- A call. -/
structure CL where
  arch : Nat
  nr : Nat
  a0 : Nat
  a1 : Nat
  a2 : Nat
  a3 : Nat
def callV (c : CL) : Value := .agg #[.int .u32 c.arch, .int .u32 c.nr, .int .u64 c.a0, .int .u64 c.a1, .int .u64 c.a2, .int .u64 c.a3]
structure ClOk (c : CL) : Prop where
  arch : c.arch < 4294967296
  nr : c.nr < 4294967296
  a0 : c.a0 < 18446744073709551616
  a1 : c.a1 < 18446744073709551616
  a2 : c.a2 < 18446744073709551616
  a3 : c.a3 < 18446744073709551616

def placeB (k : Nat) : Bool := decide (k < 40) && decide (k % 4 = 0)
def skipB (n : Int) : Bool := decide (0 ≤ n) && decide (n ≤ 255)
def branchB (op : Int) : Bool := decide (4 ≤ op) && decide (op ≤ 7)

theorem isPlace_any (k : Nat) (hk : k < 4294967296) (w : World) : Calls Try.prog 64 #[.int .u32 k] w fun e w' => e = .returned (.bool (placeB k)) ∧ w' = w := by
  go_enter Try.func64, Try.ntmps64
  go_wp2
  all_goals
    go_ret
    exact ⟨ret_bool (by unfold placeB; rw [Bool.eq_iff_iff]; simp; try omega), rfl⟩
theorem isSkip_any (n : Int) (w : World) : Calls Try.prog 75 #[.int .i64 n] w fun e w' => e = .returned (.bool (skipB n)) ∧ w' = w := by
  go_enter Try.func75, Try.ntmps75
  go_wp2
  all_goals
    go_ret
    exact ⟨ret_bool (by unfold skipB; rw [Bool.eq_iff_iff]; simp; try omega), rfl⟩
theorem isBranch_any (n : Int) (w : World) : Calls Try.prog 76 #[.int .i64 n] w fun e w' => e = .returned (.bool (branchB n)) ∧ w' = w := by
  go_enter Try.func76, Try.ntmps76
  go_wp2
  all_goals
    go_ret
    exact ⟨ret_bool (by unfold branchB; rw [Bool.eq_iff_iff]; simp; try omega), rfl⟩

/-- Does a branch hold? -/
def holdsB (x : IN) (y : Nat) : Bool := if x.op == 4 then (y : Int) == (x.k : Int) else if x.op == 5 then decide (x.k < y) else if x.op == 6 then decide (x.k ≤ y) else ((y &&& x.k : Nat) : Int) != 0
theorem box_below (w : World) (o : Obj) : Below w.heap.size w (w.alloc o) := (Below.refl _ _).alloc (Nat.le_refl _) _
theorem holds_any (x : IN) (hx : InOk x) (y : Nat) (hy : y < 4294967296) (w : World) : Calls Try.prog 74 #[insV x, .int .u32 y] w fun e w' => e = .returned (.bool (holdsB x y)) ∧ Below w.heap.size w w' := by
  obtain ⟨op, jt, jf, k⟩ := x
  have hb := u32_and_nat y k hy hx.k2
  unfold insV
  simp only at hb ⊢
  go_enter Try.func74, Try.ntmps74
  go_wp2
  all_goals
    go_ret
    exact ⟨ret_bool (by simp [holdsB, *]), box_below _ _⟩

theorem below_next {w w1 w2 : World} (a : Below w.heap.size w w1) (b : Below w1.heap.size w1 w2) : Below w.heap.size w w2 := a.trans (b.mono a.size)
/-- How many a jump or a branch passes over. -/
def skipI (x : IN) (y : Nat) : Int := if x.op == 3 then (x.k : Int) else if holdsB x y then x.jt else x.jf
theorem skip_any (x : IN) (hx : InOk x) (y : Nat) (hy : y < 4294967296) (w : World) : Calls Try.prog 67 #[insV x, .int .u32 y] w fun e w' => e = .returned (.int .i64 (skipI x y)) ∧ Below w.heap.size w w' := by
  obtain ⟨op, jt, jf, k⟩ := x
  have hk : k < 4294967296 := hx.k2
  have HH := holds_any ⟨op, jt, jf, k⟩ hx y hy
  have HS := hide (show skipI ⟨op, jt, jf, k⟩ y = if op == 3 then (k : Int) else if holdsB ⟨op, jt, jf, k⟩ y then jt else jf from rfl)
  obtain ⟨z, hz⟩ : ∃ z, z = holdsB ⟨op, jt, jf, k⟩ y := ⟨_, rfl⟩
  rw [← hz] at HH HS
  clear hz hx
  unfold insV at HH ⊢
  simp only at HH ⊢
  go_enter Try.func67, Try.ntmps67
  go_wp2_with (go_at_call 74; refine (HH _).mono ?_; rintro e w' ⟨rfl, hb⟩; have hbc := bcell hb)
  all_goals
    go_ret
    refine ⟨ret_int ?_, ?_⟩
  all_goals first
    | (rw [HS.out]; simp [*])
    | exact box_below _ _
    | exact below_next (box_below _ _) hb

/-- A word of the record. -/
def wordN (c : CL) : Nat → Nat
  | 0 => c.nr
  | 1 => c.arch
  | 2 => c.a0 % 4294967296
  | 3 => c.a0 / 4294967296
  | 4 => c.a1 % 4294967296
  | 5 => c.a1 / 4294967296
  | 6 => c.a2 % 4294967296
  | 7 => c.a2 / 4294967296
  | 8 => c.a3 % 4294967296
  | 9 => c.a3 / 4294967296
  | _ => 0
theorem word_no (c : CL) (k : Nat) (hk : k < 4294967296) (hp : placeB k = false) (w : World) : Calls Try.prog 43 #[callV c, .int .u32 k] w fun e w' => e = .returned (.tuple #[.int .u32 0, .iface 98 (.int .i64 1)]) ∧ Below w.heap.size w w' := by
  have HP := fun w => isPlace_any k hk w
  rw [hp] at HP
  unfold callV
  go_enter Try.func43, Try.ntmps43
  go_wp2_with (go_at_call 64; refine (HP _).mono ?_; rintro e w' ⟨rfl, rfl⟩)
  go_ret2
  exact ⟨rfl, box_below _ _⟩
theorem place_cases {k : Nat} (h : placeB k = true) : k = 0 ∨ k = 4 ∨ k = 8 ∨ k = 12 ∨ k = 16 ∨ k = 20 ∨ k = 24 ∨ k = 28 ∨ k = 32 ∨ k = 36 := by
  unfold placeB at h
  rw [Bool.and_eq_true, decide_eq_true_eq, decide_eq_true_eq] at h
  omega
theorem word_ok (c : CL) (hc : ClOk c) (k : Nat) (hp : placeB k = true) (w : World) : Calls Try.prog 43 #[callV c, .int .u32 k] w fun e w' => e = .returned (.tuple #[.int .u32 (wordN c (k / 4)), .nilIface]) ∧ Below w.heap.size w w' := by
  have HP := fun w => isPlace_any k (by rcases place_cases hp with h | h | h | h | h | h | h | h | h | h <;> omega) w
  rw [hp] at HP
  obtain ⟨arch, nr, a0, a1, a2, a3⟩ := c
  obtain ⟨h1, h2, h3, h4, h5, h6⟩ := hc
  simp only at h1 h2 h3 h4 h5 h6
  unfold callV
  simp only
  rcases place_cases hp with rfl | rfl | rfl | rfl | rfl | rfl | rfl | rfl | rfl | rfl
  all_goals
    clear hp
    go_enter Try.func43, Try.ntmps43
    go_wp2_with (go_at_call 64; refine (HP _).mono ?_; rintro e w' ⟨rfl, rfl⟩)
    go_ret2
    refine ⟨?_, box_below _ _⟩
    first | rfl | (simp only [wordN]; congr 4; omega)
end Go.Proofs.Ytlpcjonklfnejaa
