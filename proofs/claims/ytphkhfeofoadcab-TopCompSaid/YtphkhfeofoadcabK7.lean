/- TopComp returns true, for all policies and lists of calls, and leaves them as they were. -/
import Derived.Test.YtphkhfeofoadcabK1
import Derived.ProofKit
import Derived.Carry
import Derived.OpenShut
import Derived.Deep.Slices
import Derived.Lib.SmallJoins
import Derived.Test.YtphkhfeofoadcabK6
/- The last step of a law's row: what 'post' asks, out of 'Below' (nothing that was there has turned), without the limb on frozen cells that 'again' alone wants. -/
namespace Go.Proofs.Ytphkhfeofoadcab
open Go.ChangeShapes Go.WideShapes Go.ChangeAt Go.RowKit

theorem post_law {H : Type} {enc : TypeId × Value → H} {P : Program} {f : Func} {s : ChangeSpec} {apart fresh handsOn : Bool} {W W' : World} {args : Array Value} {v : Value} {ds gs : List (DataW H)} {before pa pv : List MemPlace}
    (hW : DataW.Whole enc P f.params.toList s.vars apart W args.toList ds gs before)
    (hres : ∀ (b : Nat) (sp : Nat → Bool) (hd : Bool), DataW.TrodAll enc P W' b sp hd f.resultTypes.toList (v.resultList f.resultTypes.size) (s.fn H (ds ++ gs)).results [])
    (hargs : ∀ sp : Nat → Bool, (∀ p ∈ before, sp p.block = true) → DataW.TrodAll enc P W' 0 sp true f.params.toList args.toList (s.fn H (ds ++ gs)).args pa)
    (hvars : ∀ sp : Nat → Bool, (∀ p ∈ before, sp p.block = true) → DataW.TrodVars enc P W' sp s.vars (s.fn H (ds ++ gs)).vars pv)
    (hps : before = pa ++ pv) (hk : Below W.heap.size W W') :
    s.post enc P f apart fresh handsOn false W args v W' := by
  have hold : ∀ p ∈ before, (fun b => decide (b < W.heap.size)) p.block = true := fun p hp => by simpa using hW.lt p hp
  refine ⟨ds, gs, before, [], pa, pv, hW, hres _ _ _, hargs _ hold, hvars _ hold, World.keptBut_mono (fun p hp => ⟨hp, ?_⟩) (hk.frame (· ∈ before)), fun h => by cases h⟩
  rw [hps, List.mem_append] at hp
  exact Or.inr hp
end Go.Proofs.Ytphkhfeofoadcab

/- What the rows over slices of structs need besides: the last step, and cells of elements. -/
namespace Go.Proofs.Ytphkhfeofoadcab
open Go.ChangeShapes Go.WideShapes Go.ChangeAt Go.RowKit Go.WideMaps Go.WideElems

theorem own : ownKnob Try.prog.godebug = none := by kernel_rfl
theorem laidOut : laidOutB Try.prog = true := by kernel_rfl

/-- 'post_law', the arguments read again under the one mode that is asked. -/
theorem post_law' {H : Type} {enc : TypeId × Value → H} {P : Program} {f : Func} {s : ChangeSpec} {apart fresh handsOn : Bool} {W W' : World} {args : Array Value} {v : Value} {ds gs : List (DataW H)} {before pa pv : List MemPlace}
    (hW : DataW.Whole enc P f.params.toList s.vars apart W args.toList ds gs before)
    (hres : ∀ (b : Nat) (sp : Nat → Bool) (hd : Bool), DataW.TrodAll enc P W' b sp hd f.resultTypes.toList (v.resultList f.resultTypes.size) (s.fn H (ds ++ gs)).results [])
    (hargs : DataW.TrodAll enc P W' 0 (fun b => decide (b < W.heap.size)) true f.params.toList args.toList (s.fn H (ds ++ gs)).args pa)
    (hvars : ∀ sp : Nat → Bool, (∀ p ∈ before, sp p.block = true) → DataW.TrodVars enc P W' sp s.vars (s.fn H (ds ++ gs)).vars pv)
    (hps : before = pa ++ pv) (hk : Below W.heap.size W W') :
    s.post enc P f apart fresh handsOn false W args v W' := by
  have hold : ∀ p ∈ before, (fun b => decide (b < W.heap.size)) p.block = true := fun p hp => by simpa using hW.lt p hp
  refine ⟨ds, gs, before, [], pa, pv, hW, hres _ _ _, hargs, hvars _ hold, World.keptBut_mono (fun p hp => ⟨hp, ?_⟩) (hk.frame (· ∈ before)), fun h => by cases h⟩
  rw [hps, List.mem_append] at hp
  exact Or.inr hp

theorem u64_wf {n : Int} (h : (Lit.int .u64 n).wf = true) : ∃ k : Nat, n = k ∧ k < 18446744073709551616 := by
  simp [Lit.wf, IntKind.min, IntKind.max, IntKind.signed, IntKind.bits] at h
  exact ⟨n.toNat, by omega, by omega⟩
theorem i64_wf {n : Int} (h : (Lit.int .i64 n).wf = true) : -9223372036854775808 ≤ n ∧ n ≤ 9223372036854775807 := by
  simp [Lit.wf, IntKind.min, IntKind.max, IntKind.signed, IntKind.bits] at h
  omega

theorem u32_wf {n : Int} (h : (Lit.int .u32 n).wf = true) : ∃ k : Nat, n = k ∧ k < 4294967296 := by
  simp [Lit.wf, IntKind.min, IntKind.max, IntKind.signed, IntKind.bits] at h
  exact ⟨n.toNat, by omega, by omega⟩

/-- The cells of element i of a slice at a plain address. -/
theorem elem_cells {w : World} {b off k i : Nat} {cs : List Value} (h : w.cells? 0 ((⟨b, off, none⟩ : Addr).add (i * k)) k = some cs) (j : Nat) (hj : j < k) : w.cell? ⟨b, off + i * k + j, none⟩ = cs[j]? := by
  have hc := (World.cells?_some h).2.2 j hj
  rw [Go.Deep.add_add, add_plain] at hc
  rw [show off + i * k + j = off + (i * k + j) by omega]
  exact hc

end Go.Proofs.Ytphkhfeofoadcab

/- Policies, calls and values that came in, opened. -/
namespace Go.Proofs.Ytphkhfeofoadcab
open Go.ChangeShapes Go.WideShapes Go.ChangeAt Go.RowKit Go.WideMaps Go.WideElems

theorem cond_fields : ∃ f0 f1 f2 f3 f4 f5 : Field, Try.prog.underlying 62 = some (.struct #[f0, f1, f2, f3, f4, f5]) ∧ (f0.type = 3 ∧ f1.type = 3 ∧ f2.type = 50 ∧ f3.type = 50 ∧ f4.type = 9 ∧ f5.type = 60) ∧ (f0.offset = 0 ∧ f1.offset = 1 ∧ f2.offset = 2 ∧ f3.offset = 3 ∧ f4.offset = 4 ∧ f5.offset = 5) :=
  ⟨_, _, _, _, _, _, Try.underlying62, ⟨by kernel_rfl, by kernel_rfl, by kernel_rfl, by kernel_rfl, by kernel_rfl, by kernel_rfl⟩, by kernel_rfl, by kernel_rfl, by kernel_rfl, by kernel_rfl, by kernel_rfl, by kernel_rfl⟩
theorem net_fields : ∃ f0 f1 f2 f3 : Field, Try.prog.underlying 60 = some (.struct #[f0, f1, f2, f3]) ∧ (f0.type = 22 ∧ f1.type = 3 ∧ f2.type = 3 ∧ f3.type = 3) ∧ (f0.offset = 0 ∧ f1.offset = 1 ∧ f2.offset = 2 ∧ f3.offset = 3) :=
  ⟨_, _, _, _, Try.underlying60, ⟨by kernel_rfl, by kernel_rfl, by kernel_rfl, by kernel_rfl⟩, by kernel_rfl, by kernel_rfl, by kernel_rfl, by kernel_rfl⟩
theorem rule_fields : ∃ f0 f1 f2 : Field, Try.prog.underlying 58 = some (.struct #[f0, f1, f2]) ∧ (f0.type = 3 ∧ f1.type = 56 ∧ f2.type = 25) ∧ (f0.offset = 0 ∧ f1.offset = 1 ∧ f2.offset = 2) :=
  ⟨_, _, _, Try.underlying58, ⟨by kernel_rfl, by kernel_rfl, by kernel_rfl⟩, by kernel_rfl, by kernel_rfl, by kernel_rfl⟩
theorem action_fields : ∃ f0 f1 : Field, Try.prog.underlying 25 = some (.struct #[f0, f1]) ∧ (f0.type = 3 ∧ f1.type = 3) ∧ (f0.offset = 0 ∧ f1.offset = 1) :=
  ⟨_, _, Try.underlying25, ⟨by kernel_rfl, by kernel_rfl⟩, by kernel_rfl, by kernel_rfl⟩
theorem pol_fields : ∃ f0 f1 : Field, Try.prog.underlying 27 = some (.struct #[f0, f1]) ∧ (f0.type = 23 ∧ f1.type = 25) ∧ (f0.offset = 0 ∧ f1.offset = 1) :=
  ⟨_, _, Try.underlying27, ⟨by kernel_rfl, by kernel_rfl⟩, by kernel_rfl, by kernel_rfl⟩
theorem call_fields : ∃ f0 f1 f2 : Field, Try.prog.underlying 53 = some (.struct #[f0, f1, f2]) ∧ (f0.type = 22 ∧ f1.type = 22 ∧ f2.type = 51) ∧ (f0.offset = 0 ∧ f1.offset = 1 ∧ f2.offset = 2) :=
  ⟨_, _, _, Try.underlying53, ⟨by kernel_rfl, by kernel_rfl, by kernel_rfl⟩, by kernel_rfl, by kernel_rfl, by kernel_rfl⟩
theorem cells_cond : Try.prog.cellsOf 62 = 9 := by kernel_rfl
theorem cells_net : Try.prog.cellsOf 60 = 4 := by kernel_rfl
theorem cells_rule : Try.prog.cellsOf 58 = 4 := by kernel_rfl
theorem cells_action : Try.prog.cellsOf 25 = 2 := by kernel_rfl
theorem cells_pol : Try.prog.cellsOf 27 = 3 := by kernel_rfl
theorem cells_conds : Try.prog.cellsOf 56 = 1 := by kernel_rfl
theorem cells_rules : Try.prog.cellsOf 23 = 1 := by kernel_rfl
theorem cells_call : Try.prog.cellsOf 53 = 6 := by kernel_rfl
theorem cells_i : Try.prog.cellsOf 3 = 1 := by kernel_rfl
theorem cells_s : Try.prog.cellsOf 9 = 1 := by kernel_rfl
theorem cells_32 : Try.prog.cellsOf 22 = 1 := by kernel_rfl
theorem cells_64 : Try.prog.cellsOf 50 = 1 := by kernel_rfl
theorem cells_arr4 : Try.prog.cellsOf 51 = 4 := by kernel_rfl

theorem list2 {α : Type} {l : List α} (h : l.length = 2) : ∃ a0 a1, l = [a0, a1] := by
  match l, h with
  | [a0, a1], _ => exact ⟨a0, a1, rfl⟩
theorem list3 {α : Type} {l : List α} (h : l.length = 3) : ∃ a0 a1 a2, l = [a0, a1, a2] := by
  match l, h with
  | [a0, a1, a2], _ => exact ⟨a0, a1, a2, rfl⟩
theorem list4 {α : Type} {l : List α} (h : l.length = 4) : ∃ a0 a1 a2 a3, l = [a0, a1, a2, a3] := by
  match l, h with
  | [a0, a1, a2, a3], _ => exact ⟨a0, a1, a2, a3, rfl⟩
theorem list9 {α : Type} {l : List α} (h : l.length = 9) : ∃ a0 a1 a2 a3 a4 a5 a6 a7 a8, l = [a0, a1, a2, a3, a4, a5, a6, a7, a8] := by
  match l, h with
  | [a0, a1, a2, a3, a4, a5, a6, a7, a8], _ => exact ⟨a0, a1, a2, a3, a4, a5, a6, a7, a8, rfl⟩
theorem array3 {α : Type} {l : Array α} (h : l.size = 3) : ∃ a0 a1 a2, l = #[a0, a1, a2] := by
  obtain ⟨l⟩ := l
  match l, h with
  | [a0, a1, a2], _ => exact ⟨a0, a1, a2, rfl⟩
theorem array6 {α : Type} {l : Array α} (h : l.size = 6) : ∃ a0 a1 a2 a3 a4 a5, l = #[a0, a1, a2, a3, a4, a5] := by
  obtain ⟨l⟩ := l
  match l, h with
  | [a0, a1, a2, a3, a4, a5], _ => exact ⟨a0, a1, a2, a3, a4, a5, rfl⟩
theorem array12 {α : Type} {l : Array α} (h : l.size = 12) : ∃ a0 a1 a2 a3 a4 a5 a6 a7 a8 a9 a10 a11, l = #[a0, a1, a2, a3, a4, a5, a6, a7, a8, a9, a10, a11] := by
  obtain ⟨l⟩ := l
  match l, h with
  | [a0, a1, a2, a3, a4, a5, a6, a7, a8, a9, a10, a11], _ => exact ⟨a0, a1, a2, a3, a4, a5, a6, a7, a8, a9, a10, a11, rfl⟩
/-- Elements, one by one, as a list. -/
theorem list_of {α : Type} {n : Nat} {p : Nat → α → Prop} (h : ∀ i, i < n → ∃ x, p i x) : ∃ l : List α, l.length = n ∧ ∀ i x, l[i]? = some x → p i x := by
  induction n with
  | zero => exact ⟨[], rfl, fun i x hx => by simp at hx⟩
  | succ n ih =>
    obtain ⟨l, hl, hp⟩ := ih fun i hi => h i (by omega)
    obtain ⟨y, hy⟩ := h n (by omega)
    refine ⟨l ++ [y], by simp [hl], fun i x hx => ?_⟩
    by_cases hi : i < n
    · rw [List.getElem?_append_left (by omega)] at hx
      exact hp i x hx
    · rw [List.getElem?_append_right (by omega)] at hx
      have hlt := (List.getElem?_eq_some_iff.1 hx).1
      simp only [List.length_singleton] at hlt
      obtain rfl : i = n := by omega
      rw [hl, Nat.sub_self] at hx
      obtain rfl := Option.some.inj hx
      exact hy

variable {H : Type} {enc : TypeId × Value → H} {w : World} {base : Nat} {spare : Nat → Bool} {held : Bool} {n : Nat} {cs : List Value} {x : DataW H × List MemPlace}
theorem i64_ok {n : Int} (h : (Lit.int .i64 n).wf = true) : I64 n := i64_wf h
theorem action_read (h : DataW.trod enc Try.prog w base spare held n 25 cs = some x) : ∃ a : ACT, cs = [.int .i64 a.kind, .int .i64 a.errno] ∧ AcOk a := by
  obtain ⟨f0, f1, hu, ⟨t0, t1⟩, o0, o1⟩ := action_fields
  obtain ⟨xs, m, _, _, hl, hlen, hf⟩ := DataW.trod_struct hu h
  rw [cells_action] at hl
  obtain ⟨a0, a1, rfl⟩ := list2 hl
  have g0 := hf 0 f0 rfl
  have g1 := hf 1 f1 rfl
  have hlt : xs.length = 2 := hlen
  rw [t0, o0, cells_i, List.getElem?_eq_getElem (by omega)] at g0
  rw [t1, o1, cells_i, List.getElem?_eq_getElem (by omega)] at g1
  obtain ⟨s0, q0, _, w0⟩ := DataW.trod_int Try.underlying3 g0
  obtain ⟨s1, q1, _, w1⟩ := DataW.trod_int Try.underlying3 g1
  simp at q0 q1
  subst q0 q1
  exact ⟨⟨s0, s1⟩, rfl, ⟨i64_ok w0, i64_ok w1⟩⟩
theorem net_read (h : DataW.trod enc Try.prog w base spare held n 60 cs = some x) : ∃ a : NT, cs = [.int .u32 a.ip, .int .i64 a.bits, .int .i64 a.lo, .int .i64 a.hi] ∧ NtOk a := by
  obtain ⟨f0, f1, f2, f3, hu, ⟨t0, t1, t2, t3⟩, o0, o1, o2, o3⟩ := net_fields
  obtain ⟨xs, m, _, _, hl, hlen, hf⟩ := DataW.trod_struct hu h
  rw [cells_net] at hl
  obtain ⟨a0, a1, a2, a3, rfl⟩ := list4 hl
  have g0 := hf 0 f0 rfl
  have g1 := hf 1 f1 rfl
  have g2 := hf 2 f2 rfl
  have g3 := hf 3 f3 rfl
  have hlt : xs.length = 4 := hlen
  rw [t0, o0, cells_32, List.getElem?_eq_getElem (by omega)] at g0
  rw [t1, o1, cells_i, List.getElem?_eq_getElem (by omega)] at g1
  rw [t2, o2, cells_i, List.getElem?_eq_getElem (by omega)] at g2
  rw [t3, o3, cells_i, List.getElem?_eq_getElem (by omega)] at g3
  obtain ⟨s0, q0, _, w0⟩ := DataW.trod_int Try.underlying22 g0
  obtain ⟨s1, q1, _, w1⟩ := DataW.trod_int Try.underlying3 g1
  obtain ⟨s2, q2, _, w2⟩ := DataW.trod_int Try.underlying3 g2
  obtain ⟨s3, q3, _, w3⟩ := DataW.trod_int Try.underlying3 g3
  simp at q0 q1 q2 q3
  obtain ⟨k0, rfl, h0⟩ := u32_wf w0
  subst q0 q1 q2 q3
  exact ⟨⟨k0, s1, s2, s3⟩, rfl, ⟨h0, i64_ok w1, i64_ok w2, i64_ok w3⟩⟩
theorem cond_read (h : DataW.trod enc Try.prog w base spare held n 62 cs = some x) :
    ∃ c : CD, cs = [.int .i64 c.arg, .int .i64 c.op, .int .u64 c.v, .int .u64 c.m, .string c.glob, .int .u32 c.net.ip, .int .i64 c.net.bits, .int .i64 c.net.lo, .int .i64 c.net.hi] ∧ CdOk c := by
  obtain ⟨f0, f1, f2, f3, f4, f5, hu, ⟨t0, t1, t2, t3, t4, t5⟩, o0, o1, o2, o3, o4, o5⟩ := cond_fields
  obtain ⟨xs, m, _, _, hl, hlen, hf⟩ := DataW.trod_struct hu h
  rw [cells_cond] at hl
  obtain ⟨a0, a1, a2, a3, a4, a5, a6, a7, a8, rfl⟩ := list9 hl
  have g0 := hf 0 f0 rfl
  have g1 := hf 1 f1 rfl
  have g2 := hf 2 f2 rfl
  have g3 := hf 3 f3 rfl
  have g4 := hf 4 f4 rfl
  have g5 := hf 5 f5 rfl
  have hlt : xs.length = 6 := hlen
  rw [t0, o0, cells_i, List.getElem?_eq_getElem (by omega)] at g0
  rw [t1, o1, cells_i, List.getElem?_eq_getElem (by omega)] at g1
  rw [t2, o2, cells_64, List.getElem?_eq_getElem (by omega)] at g2
  rw [t3, o3, cells_64, List.getElem?_eq_getElem (by omega)] at g3
  rw [t4, o4, cells_s, List.getElem?_eq_getElem (by omega)] at g4
  rw [t5, o5, cells_net, List.getElem?_eq_getElem (by omega)] at g5
  obtain ⟨nt, q5, hnt⟩ := net_read g5
  obtain ⟨s0, q0, _, w0⟩ := DataW.trod_int Try.underlying3 g0
  obtain ⟨s1, q1, _, w1⟩ := DataW.trod_int Try.underlying3 g1
  obtain ⟨s2, q2, _, w2⟩ := DataW.trod_int Try.underlying50 g2
  obtain ⟨s3, q3, _, w3⟩ := DataW.trod_int Try.underlying50 g3
  obtain ⟨s4, q4, _, _⟩ := DataW.trod_string Try.underlying9 g4
  simp at q0 q1 q2 q3 q4 q5
  obtain ⟨k2, rfl, h2⟩ := u64_wf w2
  obtain ⟨k3, rfl, h3⟩ := u64_wf w3
  obtain ⟨q5, q6, q7, q8⟩ := q5
  subst q0 q1 q2 q3 q4 q5 q6 q7 q8
  exact ⟨⟨s0, s1, k2, k3, s4, nt⟩, rfl, ⟨i64_ok w0, i64_ok w1, h2, h3, hnt⟩⟩

set_option maxRecDepth 100000 in
theorem conds_read {W : World} (h : DataW.trod enc Try.prog W 0 (fun _ => true) true n 56 cs = some x) :
    ∃ (oa : Option Addr) (l : List CD) (cap : Nat), cs = [.slice oa l.length cap] ∧ l.length ≤ cap ∧ cap ≤ maxLen ∧ IsConds oa l W ∧ ∀ c ∈ l, CdOk c := by
  rcases Go.Deep.open_slice Try.underlying56 h with ⟨rfl, _⟩ | ⟨a, len, cap, m, fu, D, Pl, rfl, _, hl, hm, hmm, _, hx⟩
  · exact ⟨none, [], 0, rfl, Nat.le_refl _, Nat.zero_le _, IsConds.nil _ _, fun c hc => by simp at hc⟩
  · rw [if_pos rfl] at hmm
    subst hmm
    rw [cells_cond] at hx
    obtain ⟨l, hll, hp⟩ := list_of (n := len) (p := fun i (c : CD) => ∃ cs', W.cells? 0 (a.add (i * 9)) 9 = some cs' ∧ cs' = [.int .i64 c.arg, .int .i64 c.op, .int .u64 c.v, .int .u64 c.m, .string c.glob, .int .u32 c.net.ip, .int .i64 c.net.bits, .int .i64 c.net.lo, .int .i64 c.net.hi] ∧ CdOk c) fun i hi => by
      obtain ⟨cs', h1, h2⟩ := hx i (by omega)
      obtain ⟨c, h3, h4⟩ := cond_read h2
      exact ⟨c, cs', h1, h3, h4⟩
    subst hll
    refine ⟨some a, l, m, rfl, hl, hm, ⟨fun h0 => ?_⟩, fun c hc => ?_⟩
    · obtain ⟨b, off, spot⟩ := a
      obtain ⟨cs0, k1, k2, _⟩ := hp 0 l[0] (List.getElem?_eq_getElem h0)
      have hc0 := (World.cells?_some k1).2.2 0 (by omega)
      rw [k2] at hc0
      have hspot : spot = none := by simpa [Addr.add] using World.cell?_spot hc0
      subst hspot
      refine ⟨b, off, rfl, World.cells?_block (by rw [Nat.zero_mul] at k1; simpa [Addr.add] using k1) (by omega : 0 < 9), fun i c hi => ?_⟩
      obtain ⟨cs', k1, rfl, k3⟩ := hp i c hi
      exact ⟨elem_cells k1 0 (by omega), elem_cells k1 1 (by omega), elem_cells k1 2 (by omega), elem_cells k1 3 (by omega), elem_cells k1 4 (by omega), elem_cells k1 5 (by omega), elem_cells k1 6 (by omega), elem_cells k1 7 (by omega), elem_cells k1 8 (by omega), k3⟩
    · obtain ⟨i, hi, rfl⟩ := List.mem_iff_getElem.1 hc
      obtain ⟨_, _, _, k3⟩ := hp i _ (List.getElem?_eq_getElem hi)
      exact k3
theorem rule_read {W : World} (h : DataW.trod enc Try.prog W 0 (fun _ => true) true n 58 cs = some x) :
    ∃ (r : RL) (oa : Option Addr) (cap : Nat), cs = [.int .i64 r.nr, .slice oa r.conds.length cap, .int .i64 r.act.kind, .int .i64 r.act.errno] ∧ r.conds.length ≤ cap ∧ cap ≤ maxLen ∧ IsConds oa r.conds W ∧ RlOk r := by
  obtain ⟨f0, f1, f2, hu, ⟨t0, t1, t2⟩, o0, o1, o2⟩ := rule_fields
  obtain ⟨xs, m, _, _, hl, hlen, hf⟩ := DataW.trod_struct hu h
  rw [cells_rule] at hl
  obtain ⟨a0, a1, a2, a3, rfl⟩ := list4 hl
  have g0 := hf 0 f0 rfl
  have g1 := hf 1 f1 rfl
  have g2 := hf 2 f2 rfl
  have hlt : xs.length = 3 := hlen
  rw [t0, o0, cells_i, List.getElem?_eq_getElem (by omega)] at g0
  rw [t1, o1, cells_conds, List.getElem?_eq_getElem (by omega)] at g1
  rw [t2, o2, cells_action, List.getElem?_eq_getElem (by omega)] at g2
  obtain ⟨s0, q0, _, w0⟩ := DataW.trod_int Try.underlying3 g0
  obtain ⟨oa, l, cap, q1, hlc, hcm, hic, hok⟩ := conds_read g1
  obtain ⟨ac, q2, hac⟩ := action_read g2
  simp at q0 q1 q2
  obtain ⟨q2, q3⟩ := q2
  subst q0 q1 q2 q3
  exact ⟨⟨s0, l, ac⟩, oa, cap, rfl, hlc, hcm, hic, ⟨i64_ok w0, hok, hac⟩⟩

set_option maxRecDepth 100000 in
theorem rules_read {W : World} (h : DataW.trod enc Try.prog W 0 (fun _ => true) true n 23 cs = some x) :
    ∃ (oa : Option Addr) (l : List RL) (cap : Nat), cs = [.slice oa l.length cap] ∧ l.length ≤ cap ∧ cap ≤ maxLen ∧ IsRules oa l W ∧ ∀ r ∈ l, RlOk r := by
  rcases Go.Deep.open_slice Try.underlying23 h with ⟨rfl, _⟩ | ⟨a, len, cap, m, fu, D, Pl, rfl, _, hl, hm, hmm, _, hx⟩
  · exact ⟨none, [], 0, rfl, Nat.le_refl _, Nat.zero_le _, IsRules.nil _ _, fun c hc => by simp at hc⟩
  · rw [if_pos rfl] at hmm
    subst hmm
    rw [cells_rule] at hx
    obtain ⟨l, hll, hp⟩ := list_of (n := len) (p := fun i (r : RL) => ∃ cs', W.cells? 0 (a.add (i * 4)) 4 = some cs' ∧ ∃ (oa : Option Addr) (cap : Nat), cs' = [.int .i64 r.nr, .slice oa r.conds.length cap, .int .i64 r.act.kind, .int .i64 r.act.errno] ∧ r.conds.length ≤ cap ∧ cap ≤ maxLen ∧ IsConds oa r.conds W ∧ RlOk r) fun i hi => by
      obtain ⟨cs', h1, h2⟩ := hx i (by omega)
      obtain ⟨r, oa, cap, h3, h4⟩ := rule_read h2
      exact ⟨r, cs', h1, oa, cap, h3, h4⟩
    subst hll
    refine ⟨some a, l, m, rfl, hl, hm, ⟨fun h0 => ?_⟩, fun c hc => ?_⟩
    · obtain ⟨b, off, spot⟩ := a
      obtain ⟨cs0, k1, _, _, k2, _⟩ := hp 0 l[0] (List.getElem?_eq_getElem h0)
      have hc0 := (World.cells?_some k1).2.2 0 (by omega)
      rw [k2] at hc0
      have hspot : spot = none := by simpa [Addr.add] using World.cell?_spot hc0
      subst hspot
      refine ⟨b, off, rfl, World.cells?_block (by rw [Nat.zero_mul] at k1; simpa [Addr.add] using k1) (by omega : 0 < 4), fun i c hi => ?_⟩
      obtain ⟨cs', k1, oa, cc, rfl, k3, k4, k5, k6⟩ := hp i c hi
      exact ⟨oa, cc, elem_cells k1 0 (by omega), elem_cells k1 1 (by omega), elem_cells k1 2 (by omega), elem_cells k1 3 (by omega), k5, k3, k4, k6⟩
    · obtain ⟨i, hi, rfl⟩ := List.mem_iff_getElem.1 hc
      obtain ⟨_, _, _, _, _, _, _, _, k6⟩ := hp i _ (List.getElem?_eq_getElem hi)
      exact k6

set_option maxRecDepth 100000 in
/-- A policy that came in, opened. -/
theorem open_pol {W : World} {v : Value} {d : DataW H} {p : List MemPlace} {r : Reach} {b0 : Nat} (hv : Value.okWide Try.prog W r b0 27 v) (h : DataW.Trod enc Try.prog W 0 (fun _ => true) true 27 v d p) :
    ∃ (q : POL) (oa : Option Addr) (cap : Nat), v = polV q oa cap ∧ IsPol oa cap q W := by
  obtain ⟨f0, f1, hu, ⟨t0, t1⟩, o0, o1⟩ := pol_fields
  obtain ⟨cs, rfl, hsz⟩ := okWide_struct hu hv
  obtain ⟨a0, a1, a2, rfl⟩ := array3 (hsz.trans cells_pol)
  obtain ⟨fuel, hf⟩ := h
  obtain ⟨xs, m, _, _, hl, hlen, hf⟩ := DataW.trod_struct hu hf
  have g0 := hf 0 f0 rfl
  have g1 := hf 1 f1 rfl
  have hlt : xs.length = 2 := hlen
  rw [t0, o0, cells_rules, List.getElem?_eq_getElem (by omega)] at g0
  rw [t1, o1, cells_action, List.getElem?_eq_getElem (by omega)] at g1
  obtain ⟨oa, l, cap, q0, hlc, hcm, hir, hok⟩ := rules_read g0
  obtain ⟨ac, q1, hac⟩ := action_read g1
  simp [Value.cells] at q0 q1
  obtain ⟨q1, q2⟩ := q1
  subst q0 q1 q2
  exact ⟨⟨l, ac⟩, oa, cap, rfl, ⟨hir, hlc, hcm, ⟨hok, hac⟩⟩⟩

set_option maxRecDepth 100000 in
/-- A call that came in, opened. -/
theorem open_call {W : World} {v : Value} {d : DataW H} {p : List MemPlace} {r : Reach} {b0 : Nat} (hv : Value.okWide Try.prog W r b0 53 v) (h : DataW.Trod enc Try.prog W base spare held 53 v d p) :
    ∃ c : KL, v = klV c ∧ KlOk c := by
  obtain ⟨f0, f1, f2, hu, ⟨t0, t1, t2⟩, o0, o1, o2⟩ := call_fields
  obtain ⟨cs, rfl, hsz⟩ := okWide_struct hu hv
  obtain ⟨a0, a1, a2, a3, a4, a5, rfl⟩ := array6 (hsz.trans cells_call)
  obtain ⟨fuel, hf⟩ := h
  obtain ⟨xs, m, _, _, hl, hlen, hf⟩ := DataW.trod_struct hu hf
  have g0 := hf 0 f0 rfl
  have g1 := hf 1 f1 rfl
  have g2 := hf 2 f2 rfl
  have hlt : xs.length = 3 := hlen
  rw [t0, o0, cells_32, List.getElem?_eq_getElem (by omega)] at g0
  rw [t1, o1, cells_32, List.getElem?_eq_getElem (by omega)] at g1
  rw [t2, o2, cells_arr4, List.getElem?_eq_getElem (by omega)] at g2
  obtain ⟨s0, q0, _, w0⟩ := DataW.trod_int Try.underlying22 g0
  obtain ⟨s1, q1, _, w1⟩ := DataW.trod_int Try.underlying22 g1
  obtain ⟨ys, m', _, _, _, hyl, hy⟩ := DataW.trod_array Try.underlying51 g2
  have y0 := hy 0 (by omega)
  have y1 := hy 1 (by omega)
  have y2 := hy 2 (by omega)
  have y3 := hy 3 (by omega)
  rw [cells_64, List.getElem?_eq_getElem (by omega)] at y0 y1 y2 y3
  obtain ⟨s2, q2, _, w2⟩ := DataW.trod_int Try.underlying50 y0
  obtain ⟨s3, q3, _, w3⟩ := DataW.trod_int Try.underlying50 y1
  obtain ⟨s4, q4, _, w4⟩ := DataW.trod_int Try.underlying50 y2
  obtain ⟨s5, q5, _, w5⟩ := DataW.trod_int Try.underlying50 y3
  simp [Value.cells] at q0 q1 q2 q3 q4 q5
  obtain ⟨k0, rfl, h0⟩ := u32_wf w0
  obtain ⟨k1, rfl, h1⟩ := u32_wf w1
  obtain ⟨k2, rfl, h2⟩ := u64_wf w2
  obtain ⟨k3, rfl, h3⟩ := u64_wf w3
  obtain ⟨k4, rfl, h4⟩ := u64_wf w4
  obtain ⟨k5, rfl, h5⟩ := u64_wf w5
  subst q0 q1 q2 q3 q4 q5
  exact ⟨⟨k0, k1, k2, k3, k4, k5⟩, rfl, ⟨h0, h1, h2, h3, h4, h5⟩⟩

theorem okWide_arr {P : Program} {w : World} {r : Reach} {base : Nat} {t : TypeId} {v : Value} {n : Nat} {e : TypeId} (ht : P.underlying t = some (.array n e)) (h : Value.okWide P w r base t v) : ∃ cs, v = .agg cs ∧ cs.size = P.cellsOf t := by
  simp only [Value.okWide, ht] at h
  obtain ⟨cs, h1, h2, _⟩ := h
  exact ⟨cs, h1, h2⟩
/-- What is known of values that come in. -/
def VsIn (v : VS) : Prop := ∀ i, i ≤ 3 → (v.at i).path.size ≤ maxLen ∧ (v.at i).ip < 4294967296 ∧ I64 (v.at i).port
end Go.Proofs.Ytphkhfeofoadcab

/- Calls that came in, opened. -/
namespace Go.Proofs.Ytphkhfeofoadcab
open Go.ChangeShapes Go.WideShapes Go.ChangeAt Go.RowKit Go.WideMaps Go.WideElems

theorem list6 {α : Type} {l : List α} (h : l.length = 6) : ∃ a0 a1 a2 a3 a4 a5, l = [a0, a1, a2, a3, a4, a5] := by
  match l, h with
  | [a0, a1, a2, a3, a4, a5], _ => exact ⟨a0, a1, a2, a3, a4, a5, rfl⟩
set_option maxRecDepth 100000 in
theorem call_read {H : Type} {enc : TypeId × Value → H} {w : World} {base : Nat} {spare : Nat → Bool} {held : Bool} {n : Nat} {cs : List Value} {x : DataW H × List MemPlace} (h : DataW.trod enc Try.prog w base spare held n 53 cs = some x) :
    ∃ k : KL, cs = [.int .u32 k.arch, .int .u32 k.nr, .int .u64 k.a0, .int .u64 k.a1, .int .u64 k.a2, .int .u64 k.a3] ∧ KlOk k := by
  obtain ⟨f0, f1, f2, hu, ⟨t0, t1, t2⟩, o0, o1, o2⟩ := call_fields
  obtain ⟨xs, m, _, _, hl, hlen, hf⟩ := DataW.trod_struct hu h
  rw [cells_call] at hl
  obtain ⟨a0, a1, a2, a3, a4, a5, rfl⟩ := list6 hl
  have g0 := hf 0 f0 rfl
  have g1 := hf 1 f1 rfl
  have g2 := hf 2 f2 rfl
  have hlt : xs.length = 3 := hlen
  rw [t0, o0, cells_32, List.getElem?_eq_getElem (by omega)] at g0
  rw [t1, o1, cells_32, List.getElem?_eq_getElem (by omega)] at g1
  rw [t2, o2, cells_arr4, List.getElem?_eq_getElem (by omega)] at g2
  obtain ⟨s0, q0, _, w0⟩ := DataW.trod_int Try.underlying22 g0
  obtain ⟨s1, q1, _, w1⟩ := DataW.trod_int Try.underlying22 g1
  obtain ⟨ys, m', _, _, _, hyl, hy⟩ := DataW.trod_array Try.underlying51 g2
  have y0 := hy 0 (by omega)
  have y1 := hy 1 (by omega)
  have y2 := hy 2 (by omega)
  have y3 := hy 3 (by omega)
  rw [cells_64, List.getElem?_eq_getElem (by omega)] at y0 y1 y2 y3
  obtain ⟨s2, q2, _, w2⟩ := DataW.trod_int Try.underlying50 y0
  obtain ⟨s3, q3, _, w3⟩ := DataW.trod_int Try.underlying50 y1
  obtain ⟨s4, q4, _, w4⟩ := DataW.trod_int Try.underlying50 y2
  obtain ⟨s5, q5, _, w5⟩ := DataW.trod_int Try.underlying50 y3
  simp at q0 q1 q2 q3 q4 q5
  obtain ⟨k0, rfl, h0⟩ := u32_wf w0
  obtain ⟨k1, rfl, h1⟩ := u32_wf w1
  obtain ⟨k2, rfl, h2⟩ := u64_wf w2
  obtain ⟨k3, rfl, h3⟩ := u64_wf w3
  obtain ⟨k4, rfl, h4⟩ := u64_wf w4
  obtain ⟨k5, rfl, h5⟩ := u64_wf w5
  subst q0 q1 q2 q3 q4 q5
  exact ⟨⟨k0, k1, k2, k3, k4, k5⟩, rfl, ⟨h0, h1, h2, h3, h4, h5⟩⟩

set_option maxRecDepth 100000 in
/-- Calls that came in, opened. -/
theorem open_calls {H : Type} {enc : TypeId × Value → H} {W : World} {v : Value} {d : DataW H} {p : List MemPlace} {r : Reach} {b0 : Nat} (hv : Value.okWide Try.prog W r b0 45 v) (h : DataW.Trod enc Try.prog W 0 (fun _ => true) true 45 v d p) :
    ∃ (oa : Option Addr) (n cap : Nat) (L : Nat → KL), v = .slice oa n cap ∧ n ≤ cap ∧ cap ≤ maxLen ∧ IsCalls oa n L W := by
  obtain ⟨oa, n, cap, rfl⟩ := okWide_slice Try.underlying45 hv
  obtain ⟨fuel, hf⟩ := h
  rcases Go.Deep.open_slice Try.underlying45 hf with ⟨hcs, _⟩ | ⟨a, len, cap', m, fu, D, Pl, hcs, _, hl, hm, hmm, _, hx⟩
  · simp only [Value.cells, List.cons.injEq, Value.slice.injEq, and_true] at hcs
    obtain ⟨rfl, rfl, rfl⟩ := hcs
    exact ⟨none, 0, 0, fun _ => ⟨0, 0, 0, 0, 0, 0⟩, rfl, Nat.le_refl _, Nat.zero_le _, ⟨fun h0 => absurd h0 (Nat.lt_irrefl 0)⟩⟩
  · simp only [Value.cells, List.cons.injEq, Value.slice.injEq, and_true] at hcs
    obtain ⟨rfl, rfl, rfl⟩ := hcs
    rw [if_pos rfl] at hmm
    subst hmm
    rw [cells_call] at hx
    have hy : ∀ i, i < n → ∃ y : KL, ∃ cs', W.cells? 0 (a.add (i * 6)) 6 = some cs' ∧ cs' = [.int .u32 y.arch, .int .u32 y.nr, .int .u64 y.a0, .int .u64 y.a1, .int .u64 y.a2, .int .u64 y.a3] ∧ KlOk y := fun i hi => by
      obtain ⟨cs', h1, h2⟩ := hx i (by omega)
      obtain ⟨y, h3, h4⟩ := call_read h2
      exact ⟨y, cs', h1, h3, h4⟩
    haveI : Inhabited KL := ⟨⟨0, 0, 0, 0, 0, 0⟩⟩
    obtain ⟨L, hL⟩ := Go.Deep.choose_lt hy
    refine ⟨some a, n, m, L, rfl, hl, hm, ⟨fun h0 => ?_⟩⟩
    obtain ⟨b, off, spot⟩ := a
    obtain ⟨cs0, k1, k2, _⟩ := hL 0 h0
    have hc0 := (World.cells?_some k1).2.2 0 (by omega)
    rw [k2] at hc0
    have hspot : spot = none := by simpa [Addr.add] using World.cell?_spot hc0
    subst hspot
    refine ⟨b, off, rfl, World.cells?_block (by rw [Nat.zero_mul] at k1; simpa [Addr.add] using k1) (by omega : 0 < 6), fun i hi => ?_⟩
    obtain ⟨cs', k1, rfl, k3⟩ := hL i hi
    exact ⟨elem_cells k1 0 (by omega), elem_cells k1 1 (by omega), elem_cells k1 2 (by omega), elem_cells k1 3 (by omega), elem_cells k1 4 (by omega), elem_cells k1 5 (by omega), k3⟩

end Go.Proofs.Ytphkhfeofoadcab

namespace Go.Proofs.Ytphkhfeofoadcab
open Go.ChangeShapes Go.WideShapes Go.ChangeAt Go.RowKit Go.WideMaps Go.WideElems

set_option maxRecDepth 100000 in
theorem topComp_lifted (os : Os) (started : os.Started) (H : Type) (enc : TypeId × Value → H) :
    ReturnsInHanded {} Try.checked os 4 .any (Rows.topCompSpec.pre6 enc Try.prog Try.f4 Rows.topCompRow.domain false) (Rows.topCompSpec.post enc Try.prog Try.f4 false true false false) := by
  refine returnsInHanded_of_change (C := Try.checked) own started (by kernel_rfl) Try.func4
    (ChangeSpec.witness6 (enc := enc) (C := Try.checked) false ⟨#[], #[.agg #[.slice none 0 0, .int .i64 0, .int .i64 0], .slice none 0 0], []⟩ 8 (by kernel_rfl) (by kernel_rfl) (by kernel_rfl) (by kernel_rfl)) ?_
  intro W base args ds gs before hval0 hW hcnd _
  have hval : ∀ (j : Nat) t v, Try.f4.params[j]? = some t → args[j]? = some v → Value.okWide Try.prog W .any base t v := hval0
  have hW' := hW
  obtain ⟨p, q, hA0, hV, rfl, hfz, hnd⟩ := hW
  have hA : DataW.TrodAll enc Try.prog W 0 (fun _ => true) true Try.f4.params.toList args.toList ds p := hA0
  rw [Try.params4] at hA hval
  obtain ⟨v0, v1, d0, d1, p0, p1, rfl, rfl, rfl, h0, h1⟩ := trodAll_two hA
  obtain ⟨rfl, rfl⟩ := trodVars_none hV
  obtain ⟨pl, oa, cap, rfl, hpl⟩ := open_pol (hval 0 27 v0 rfl rfl) h0
  obtain ⟨ob, n, capc, L, rfl, hn, hcap, hL⟩ := open_calls (hval 1 45 v1 rfl rfl) h1
  clear hA0 hval0
  simp only [List.append_nil] at hW'
  refine (topComp_any pl oa cap ob n capc L (by unfold maxLen at hcap; omega) W hpl hL).mono fun e W' ⟨he, hb⟩ => ?_
  subst he
  have hlt : ∀ x ∈ p0 ++ p1, x.block < W.heap.size := fun x hx => by simpa using hW'.lt x hx
  exact ⟨_, rfl, post_law' (pa := p0 ++ p1) (pv := []) hW' (fun _ _ _ => trodAll_mk1 (shut_bool Try.underlying4 _))
    (trodAll_mk2 (Below.trod laidOut (by kernel_rfl) (of_decide_eq_true (by kernel_rfl)) h0 hb fun x hx => hlt x (List.mem_append.2 (.inl hx))) (Below.trod laidOut (by kernel_rfl) (of_decide_eq_true (by kernel_rfl)) h1 hb fun x hx => hlt x (List.mem_append.2 (.inr hx)))) (fun _ _ => rfl) (List.append_nil _).symm hb⟩

theorem topComp_holds : Rows.TopCompSaid :=
  OpenClaim.holds_of_wide 4 Try.f4 rfl rfl rfl rfl rfl rfl rfl ⟨rfl, rfl, rfl, rfl, rfl⟩ rfl rfl rfl rfl rfl (by kernel_rfl) Try.func4 (by kernel_rfl)
    (of_decide_eq_true (by kernel_rfl)) (by unfold Func.isWrapper; first | (rw [if_pos (by decide +kernel)]; kernel_rfl) | (rw [if_neg (by decide +kernel)]; exact ⟨rfl, rfl⟩))
    (fun os started H enc _ => topComp_lifted os started H enc)
#print axioms topComp_holds
end Go.Proofs.Ytphkhfeofoadcab
