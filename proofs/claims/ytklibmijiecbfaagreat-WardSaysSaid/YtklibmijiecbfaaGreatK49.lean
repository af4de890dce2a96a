/- The last step of a law's row: what 'post' asks, out of 'Below' (nothing that was there has turned), without the limb on frozen cells that 'again' alone wants. -/
import Derived.Test.YtklibmijiecbfaaGreatK1
import Derived.ProofKit
import Derived.Carry
import Derived.OpenShut
import Derived.Deep.Slices
import Derived.Lib.SmallJoins
import Derived.Test.YtklibmijiecbfaaGreatK2
import Derived.Test.YtklibmijiecbfaaGreatK12
namespace Go.Proofs.YtklibmijiecbfaaGreat
open Go.ChangeShapes Go.WideShapes Go.ChangeAt Go.RowKit

end Go.Proofs.YtklibmijiecbfaaGreat

/- What the rows over slices of structs need besides: the last step, and cells of elements. -/
namespace Go.Proofs.YtklibmijiecbfaaGreat
open Go.ChangeShapes Go.WideShapes Go.ChangeAt Go.RowKit Go.WideMaps Go.WideElems

theorem own : ownKnob Tryz.prog.godebug = none := by kernel_rfl
theorem laidOut : laidOutB Tryz.prog = true := by kernel_rfl

theorem post_law' {H : Type} {enc : TypeId × Value → H} {P : Program} {f : Func} {s : ChangeSpec} {apart fresh handsOn : Bool} {W W' : World} {args : Array Value} {v : Value} {ds gs : List (DataW H)} {before pa pv : List MemPlace}
  (hW : DataW.Whole enc P f.params.toList s.vars apart W args.toList ds gs before)
  (hres : ∀ (b : Nat) (sp : Nat → Bool) (hd : Bool), DataW.TrodAll enc P W' b sp hd f.resultTypes.toList (v.resultList f.resultTypes.size) (s.fn H (ds ++ gs)).results [])
  (hargs : DataW.TrodAll enc P W' 0 (fun b => decide (b < W.heap.size)) true f.params.toList args.toList (s.fn H (ds ++ gs)).args pa)
  (hvars : ∀ sp : Nat → Bool, (∀ p ∈ before, sp p.block = true) → DataW.TrodVars enc P W' sp s.vars (s.fn H (ds ++ gs)).vars pv)
  (hps : before = pa ++ pv) (hk : Below W.heap.size W W') :
  s.post enc P f apart fresh handsOn false W args v W' := by
 have hold : ∀ p ∈ before, (fun b => decide (b < W.heap.size)) p.block = true := fun p hp => by simpa using hW.lt p hp
 refine ⟨ds, gs, before, [], pa, pv, hW, hres _ _ _, hargs, hvars _ hold, World.keptBut_mono (fun p hp => ⟨hp, ?_⟩) (hk.frame (· ∈ before)), fun h => by cases h⟩
 rw [hps, List.mem_append] at hp
 exact Or.inr hp

theorem u64_wf {n : Int} (h : (Lit.int .u64 n).wf = true) : ∃ k : Nat, n = k ∧ k < 18446744073709551616 := by
 simp [Lit.wf, IntKind.min, IntKind.max, IntKind.signed, IntKind.bits] at h
 exact ⟨n.toNat, by omega, by omega⟩
theorem i64_wf {n : Int} (h : (Lit.int .i64 n).wf = true) : -9223372036854775808 ≤ n ∧ n ≤ 9223372036854775807 := by
 simp [Lit.wf, IntKind.min, IntKind.max, IntKind.signed, IntKind.bits] at h
 omega

theorem u32_wf {n : Int} (h : (Lit.int .u32 n).wf = true) : ∃ k : Nat, n = k ∧ k < 4294967296 := by
 simp [Lit.wf, IntKind.min, IntKind.max, IntKind.signed, IntKind.bits] at h
 exact ⟨n.toNat, by omega, by omega⟩

theorem elem_cells {w : World} {b off k i : Nat} {cs : List Value} (h : w.cells? 0 ((⟨b, off, none⟩ : Addr).add (i * k)) k = some cs) (j : Nat) (hj : j < k) : w.cell? ⟨b, off + i * k + j, none⟩ = cs[j]? := by
 have hc := (World.cells?_some h).2.2 j hj
 rw [Go.Deep.add_add, add_plain] at hc
 rw [show off + i * k + j = off + (i * k + j) by omega]
 exact hc

end Go.Proofs.YtklibmijiecbfaaGreat

/- Acts that came in, opened. -/
namespace Go.Proofs.YtklibmijiecbfaaGreat.Bp
end Go.Proofs.YtklibmijiecbfaaGreat.Bp
namespace Go.Proofs.YtklibmijiecbfaaGreat.Mm
open Go.Proofs.YtklibmijiecbfaaGreat.Bp
open Go.ChangeShapes Go.WideShapes Go.ChangeAt Go.RowKit Go.WideMaps Go.WideElems
open Go.ChangeMaps (open_string shut_string)

theorem act_fields : ∃ f0 f1 f2 f3 f4 f5 : Field, Tryz.prog.underlying 54 = some (.struct #[f0, f1, f2, f3, f4, f5]) ∧ (f0.type = 9 ∧ f1.type = 3 ∧ f2.type = 42 ∧ f3.type = 9 ∧ f4.type = 4 ∧ f5.type = 52) ∧ (f0.offset = 0 ∧ f1.offset = 1 ∧ f2.offset = 2 ∧ f3.offset = 3 ∧ f4.offset = 4 ∧ f5.offset = 5) :=
 ⟨_, _, _, _, _, _, Tryz.underlying54, ⟨by kernel_rfl, by kernel_rfl, by kernel_rfl, by kernel_rfl, by kernel_rfl, by kernel_rfl⟩, by kernel_rfl, by kernel_rfl, by kernel_rfl, by kernel_rfl, by kernel_rfl, by kernel_rfl⟩
theorem cells_act : Tryz.prog.cellsOf 54 = 11 := by kernel_rfl
theorem cells_str : Tryz.prog.cellsOf 9 = 1 := by kernel_rfl
theorem cells_int : Tryz.prog.cellsOf 3 = 1 := by kernel_rfl
theorem cells_u64 : Tryz.prog.cellsOf 42 = 1 := by kernel_rfl
theorem cells_bool : Tryz.prog.cellsOf 4 = 1 := by kernel_rfl

theorem list11 {α : Type} {l : List α} (h : l.length = 11) : ∃ a0 a1 a2 a3 a4 a5 a6 a7 a8 a9 a10, l = [a0, a1, a2, a3, a4, a5, a6, a7, a8, a9, a10] := by
 match l, h with
 | [a0, a1, a2, a3, a4, a5, a6, a7, a8, a9, a10], _ => exact ⟨a0, a1, a2, a3, a4, a5, a6, a7, a8, a9, a10, rfl⟩

theorem cells_callA : Tryz.prog.cellsOf 52 = 6 := by kernel_rfl
theorem cells_u32A : Tryz.prog.cellsOf 43 = 1 := by kernel_rfl
theorem cells_arrA : Tryz.prog.cellsOf 50 = 4 := by kernel_rfl
theorem call_fieldsA : ∃ f0 f1 f2 : Field, Tryz.prog.underlying 52 = some (.struct #[f0, f1, f2]) ∧ (f0.type = 43 ∧ f1.type = 43 ∧ f2.type = 50) ∧ (f0.offset = 0 ∧ f1.offset = 1 ∧ f2.offset = 2) :=
 ⟨_, _, _, Tryz.underlying52, ⟨by kernel_rfl, by kernel_rfl, by kernel_rfl⟩, by kernel_rfl, by kernel_rfl, by kernel_rfl⟩
theorem list6 {α : Type} {l : List α} (h : l.length = 6) : ∃ a0 a1 a2 a3 a4 a5, l = [a0, a1, a2, a3, a4, a5] := by
 match l, h with
 | [a0, a1, a2, a3, a4, a5], _ => exact ⟨a0, a1, a2, a3, a4, a5, rfl⟩
set_option maxRecDepth 100000 in
theorem call_read {H : Type} {enc : TypeId × Value → H} {w : World} {base : Nat} {spare : Nat → Bool} {held : Bool} {n : Nat} {cs : List Value} {x : DataW H × List MemPlace} (h : DataW.trod enc Tryz.prog w base spare held n 52 cs = some x) :
  ∃ z0 z1 z2 z3 z4 z5 : Int, cs = [.int .u32 z0, .int .u32 z1, .int .u64 z2, .int .u64 z3, .int .u64 z4, .int .u64 z5] ∧ (0 ≤ z0 ∧ z0 < 4294967296) ∧ (0 ≤ z1 ∧ z1 < 4294967296) ∧ (0 ≤ z2 ∧ z2 < 18446744073709551616) ∧ (0 ≤ z3 ∧ z3 < 18446744073709551616) ∧ (0 ≤ z4 ∧ z4 < 18446744073709551616) ∧ (0 ≤ z5 ∧ z5 < 18446744073709551616) := by
 obtain ⟨f0, f1, f2, hu, ⟨t0, t1, t2⟩, o0, o1, o2⟩ := call_fieldsA
 obtain ⟨xs, m, _, _, hl, hlen, hf⟩ := DataW.trod_struct hu h
 rw [cells_callA] at hl
 obtain ⟨a0, a1, a2, a3, a4, a5, rfl⟩ := list6 hl
 have g0 := hf 0 f0 rfl
 have g1 := hf 1 f1 rfl
 have g2 := hf 2 f2 rfl
 have hlt : xs.length = 3 := hlen
 rw [t0, o0, cells_u32A, List.getElem?_eq_getElem (by omega)] at g0
 rw [t1, o1, cells_u32A, List.getElem?_eq_getElem (by omega)] at g1
 rw [t2, o2, cells_arrA, List.getElem?_eq_getElem (by omega)] at g2
 obtain ⟨s0, q0, _, w0⟩ := DataW.trod_int Tryz.underlying43 g0
 obtain ⟨s1, q1, _, w1⟩ := DataW.trod_int Tryz.underlying43 g1
 obtain ⟨ys, m', _, _, _, hyl, hy⟩ := DataW.trod_array Tryz.underlying50 g2
 have y0 := hy 0 (by omega)
 have y1 := hy 1 (by omega)
 have y2 := hy 2 (by omega)
 have y3 := hy 3 (by omega)
 rw [cells_u64, List.getElem?_eq_getElem (by omega)] at y0 y1 y2 y3
 obtain ⟨s2, q2, _, w2⟩ := DataW.trod_int Tryz.underlying42 y0
 obtain ⟨s3, q3, _, w3⟩ := DataW.trod_int Tryz.underlying42 y1
 obtain ⟨s4, q4, _, w4⟩ := DataW.trod_int Tryz.underlying42 y2
 obtain ⟨s5, q5, _, w5⟩ := DataW.trod_int Tryz.underlying42 y3
 simp at q0 q1 q2 q3 q4 q5
 obtain ⟨k0, rfl, b0⟩ := u32_wf w0
 obtain ⟨k1, rfl, b1⟩ := u32_wf w1
 obtain ⟨k2, rfl, b2⟩ := u64_wf w2
 obtain ⟨k3, rfl, b3⟩ := u64_wf w3
 obtain ⟨k4, rfl, b4⟩ := u64_wf w4
 obtain ⟨k5, rfl, b5⟩ := u64_wf w5
 subst q0 q1 q2 q3 q4 q5
 exact ⟨_, _, _, _, _, _, rfl, by omega, by omega, by omega, by omega, by omega, by omega⟩

theorem act_read {H : Type} {enc : TypeId × Value → H} {w : World} {base : Nat} {spare : Nat → Bool} {held : Bool} {n : Nat} {cs : List Value} {x : DataW H × List MemPlace} (h : DataW.trod enc Tryz.prog w base spare held n 54 cs = some x) :
  ∃ y : AC, cs = [.string y.kind, .int .i64 y.n, .int .u64 y.a, .string y.s, .bool y.wr, .int .u32 y.c0, .int .u32 y.c1, .int .u64 y.c2, .int .u64 y.c3, .int .u64 y.c4, .int .u64 y.c5] ∧ y.kind.size ≤ maxLen ∧ y.s.size ≤ maxLen ∧ y.a < 18446744073709551616 ∧ y.callOk ∧ -9223372036854775808 ≤ y.n ∧ y.n ≤ 9223372036854775807 := by
 obtain ⟨f0, f1, f2, f3, f4, f5, hu, ⟨t0, t1, t2, t3, t4, t5⟩, o0, o1, o2, o3, o4, o5⟩ := act_fields
 obtain ⟨xs, m, _, _, hl, hlen, hf⟩ := DataW.trod_struct hu h
 rw [cells_act] at hl
 obtain ⟨a0, a1, a2, a3, a4, a5, a6, a7, a8, a9, a10, rfl⟩ := list11 hl
 have g0 := hf 0 f0 rfl
 have g1 := hf 1 f1 rfl
 have g2 := hf 2 f2 rfl
 have g3 := hf 3 f3 rfl
 have g4 := hf 4 f4 rfl
 have g5 := hf 5 f5 rfl
 have hlt : xs.length = 6 := hlen
 rw [t0, o0, cells_str, List.getElem?_eq_getElem (by omega)] at g0
 rw [t1, o1, cells_int, List.getElem?_eq_getElem (by omega)] at g1
 rw [t2, o2, cells_u64, List.getElem?_eq_getElem (by omega)] at g2
 rw [t3, o3, cells_str, List.getElem?_eq_getElem (by omega)] at g3
 rw [t4, o4, cells_bool, List.getElem?_eq_getElem (by omega)] at g4
 rw [t5, o5, cells_callA, List.getElem?_eq_getElem (by omega)] at g5
 obtain ⟨z0, z1, z2, z3, z4, z5, q5, hz⟩ := call_read g5
 obtain ⟨s0, q0, _, w0⟩ := DataW.trod_string Tryz.underlying9 g0
 obtain ⟨s1, q1, _, w1⟩ := DataW.trod_int Tryz.underlying3 g1
 obtain ⟨s2, q2, _, w2⟩ := DataW.trod_int Tryz.underlying42 g2
 obtain ⟨s3, q3, _, w3⟩ := DataW.trod_string Tryz.underlying9 g3
 obtain ⟨s4, q4, _⟩ := DataW.trod_bool Tryz.underlying4 g4
 simp at q0 q1 q2 q3 q4 q5
 obtain ⟨rfl, rfl, rfl, rfl, rfl, rfl⟩ := q5
 obtain ⟨k2, rfl, hk2⟩ := u64_wf w2
 subst q0 q1 q2 q3 q4
 exact ⟨⟨s0, s1, k2, s3, s4, z0, z1, z2, z3, z4, z5⟩, rfl, w0, w3, hk2, hz, i64_wf w1⟩

set_option maxRecDepth 100000 in
theorem open_acts {H : Type} {enc : TypeId × Value → H} {W : World} {v : Value} {d : DataW H} {p : List MemPlace} {r : Reach} {b0 : Nat} (hv : Value.okWide Tryz.prog W r b0 27 v) (h : DataW.Trod enc Tryz.prog W 0 (fun _ => true) true 27 v d p) :
  ∃ (oa : Option Addr) (n cap : Nat) (L : Nat → AC), v = .slice oa n cap ∧ n ≤ maxLen ∧ IsActs oa n L W := by
 obtain ⟨oa, n, cap, rfl⟩ := okWide_slice Tryz.underlying27 hv
 obtain ⟨fuel, hf⟩ := h
 rcases Go.Deep.open_slice Tryz.underlying27 hf with ⟨hcs, _⟩ | ⟨a, len, cap', m, fu, D, Pl, hcs, _, hl, hm, hmm, _, hx⟩
 ·
  simp only [Value.cells, List.cons.injEq, Value.slice.injEq, and_true] at hcs
  obtain ⟨rfl, rfl, rfl⟩ := hcs
  exact ⟨none, 0, 0, fun _ => ⟨⟨#[]⟩, 0, 0, ⟨#[]⟩, false, 0, 0, 0, 0, 0, 0⟩, rfl, Nat.zero_le _, ⟨fun h0 => absurd h0 (Nat.lt_irrefl 0)⟩⟩
 ·
  simp only [Value.cells, List.cons.injEq, Value.slice.injEq, and_true] at hcs
  obtain ⟨rfl, rfl, rfl⟩ := hcs
  rw [if_pos rfl] at hmm
  subst hmm
  rw [cells_act] at hx
  have hy : ∀ i, i < n → ∃ y : AC, ∃ cs', W.cells? 0 (a.add (i * 11)) 11 = some cs' ∧ cs' = [.string y.kind, .int .i64 y.n, .int .u64 y.a, .string y.s, .bool y.wr, .int .u32 y.c0, .int .u32 y.c1, .int .u64 y.c2, .int .u64 y.c3, .int .u64 y.c4, .int .u64 y.c5] ∧ y.kind.size ≤ maxLen ∧ y.s.size ≤ maxLen ∧ y.a < 18446744073709551616 ∧ y.callOk ∧ -9223372036854775808 ≤ y.n ∧ y.n ≤ 9223372036854775807 := fun i hi => by
   obtain ⟨cs', h1, h2⟩ := hx i (by omega)
   obtain ⟨y, h3, h4⟩ := act_read h2
   exact ⟨y, cs', h1, h3, h4⟩
  haveI : Inhabited AC := ⟨⟨⟨#[]⟩, 0, 0, ⟨#[]⟩, false, 0, 0, 0, 0, 0, 0⟩⟩
  obtain ⟨L, hL⟩ := Go.Deep.choose_lt hy
  refine ⟨some a, n, m, L, rfl, Nat.le_trans hl hm, ⟨fun h0 => ?_⟩⟩
  obtain ⟨b, off, spot⟩ := a
  obtain ⟨cs0, k1, k2, _⟩ := hL 0 h0
  have hc0 := (World.cells?_some k1).2.2 0 (by omega)
  rw [k2] at hc0
  have hspot : spot = none := by simpa [Addr.add] using World.cell?_spot hc0
  subst hspot
  refine ⟨b, off, rfl, World.cells?_block (by rw [Nat.zero_mul] at k1; simpa [Addr.add] using k1) (by omega : 0 < 11), fun i hi => ?_⟩
  obtain ⟨cs', k1, rfl, k3, k4, k5, kc, k6, k7⟩ := hL i hi
  exact ⟨elem_cells k1 0 (by omega), elem_cells k1 1 (by omega), elem_cells k1 2 (by omega), elem_cells k1 3 (by omega), elem_cells k1 4 (by omega), elem_cells k1 5 (by omega), elem_cells k1 6 (by omega), elem_cells k1 7 (by omega), elem_cells k1 8 (by omega), elem_cells k1 9 (by omega), elem_cells k1 10 (by omega), k3, k4, k5, k6, k7, kc⟩
end Go.Proofs.YtklibmijiecbfaaGreat.Mm

/- Policies, calls and values that came in, opened. -/
namespace Go.Proofs.YtklibmijiecbfaaGreat
open Go.ChangeShapes Go.WideShapes Go.ChangeAt Go.RowKit Go.WideMaps Go.WideElems

theorem cond_fields : ∃ f0 f1 f2 f3 f4 f5 : Field, Tryz.prog.underlying 47 = some (.struct #[f0, f1, f2, f3, f4, f5]) ∧ (f0.type = 3 ∧ f1.type = 3 ∧ f2.type = 42 ∧ f3.type = 42 ∧ f4.type = 9 ∧ f5.type = 45) ∧ (f0.offset = 0 ∧ f1.offset = 1 ∧ f2.offset = 2 ∧ f3.offset = 3 ∧ f4.offset = 4 ∧ f5.offset = 5) :=
 ⟨_, _, _, _, _, _, Tryz.underlying47, ⟨by kernel_rfl, by kernel_rfl, by kernel_rfl, by kernel_rfl, by kernel_rfl, by kernel_rfl⟩, by kernel_rfl, by kernel_rfl, by kernel_rfl, by kernel_rfl, by kernel_rfl, by kernel_rfl⟩
theorem net_fields : ∃ f0 f1 f2 f3 : Field, Tryz.prog.underlying 45 = some (.struct #[f0, f1, f2, f3]) ∧ (f0.type = 43 ∧ f1.type = 3 ∧ f2.type = 3 ∧ f3.type = 3) ∧ (f0.offset = 0 ∧ f1.offset = 1 ∧ f2.offset = 2 ∧ f3.offset = 3) :=
 ⟨_, _, _, _, Tryz.underlying45, ⟨by kernel_rfl, by kernel_rfl, by kernel_rfl, by kernel_rfl⟩, by kernel_rfl, by kernel_rfl, by kernel_rfl, by kernel_rfl⟩
theorem rule_fields : ∃ f0 f1 f2 : Field, Tryz.prog.underlying 41 = some (.struct #[f0, f1, f2]) ∧ (f0.type = 3 ∧ f1.type = 39 ∧ f2.type = 24) ∧ (f0.offset = 0 ∧ f1.offset = 1 ∧ f2.offset = 2) :=
 ⟨_, _, _, Tryz.underlying41, ⟨by kernel_rfl, by kernel_rfl, by kernel_rfl⟩, by kernel_rfl, by kernel_rfl, by kernel_rfl⟩
theorem action_fields : ∃ f0 f1 : Field, Tryz.prog.underlying 24 = some (.struct #[f0, f1]) ∧ (f0.type = 3 ∧ f1.type = 3) ∧ (f0.offset = 0 ∧ f1.offset = 1) :=
 ⟨_, _, Tryz.underlying24, ⟨by kernel_rfl, by kernel_rfl⟩, by kernel_rfl, by kernel_rfl⟩
theorem pol_fields : ∃ f0 f1 : Field, Tryz.prog.underlying 26 = some (.struct #[f0, f1]) ∧ (f0.type = 22 ∧ f1.type = 24) ∧ (f0.offset = 0 ∧ f1.offset = 1) :=
 ⟨_, _, Tryz.underlying26, ⟨by kernel_rfl, by kernel_rfl⟩, by kernel_rfl, by kernel_rfl⟩
theorem cells_cond : Tryz.prog.cellsOf 47 = 9 := by kernel_rfl
theorem cells_net : Tryz.prog.cellsOf 45 = 4 := by kernel_rfl
theorem cells_rule : Tryz.prog.cellsOf 41 = 4 := by kernel_rfl
theorem cells_action : Tryz.prog.cellsOf 24 = 2 := by kernel_rfl
theorem cells_pol : Tryz.prog.cellsOf 26 = 3 := by kernel_rfl
theorem cells_conds : Tryz.prog.cellsOf 39 = 1 := by kernel_rfl
theorem cells_rules : Tryz.prog.cellsOf 22 = 1 := by kernel_rfl
theorem cells_i : Tryz.prog.cellsOf 3 = 1 := by kernel_rfl
theorem cells_s : Tryz.prog.cellsOf 9 = 1 := by kernel_rfl
theorem cells_32 : Tryz.prog.cellsOf 43 = 1 := by kernel_rfl
theorem cells_64 : Tryz.prog.cellsOf 42 = 1 := by kernel_rfl
theorem list2 {α : Type} {l : List α} (h : l.length = 2) : ∃ a0 a1, l = [a0, a1] := by
 match l, h with
 | [a0, a1], _ => exact ⟨a0, a1, rfl⟩
theorem list4 {α : Type} {l : List α} (h : l.length = 4) : ∃ a0 a1 a2 a3, l = [a0, a1, a2, a3] := by
 match l, h with
 | [a0, a1, a2, a3], _ => exact ⟨a0, a1, a2, a3, rfl⟩
theorem list9 {α : Type} {l : List α} (h : l.length = 9) : ∃ a0 a1 a2 a3 a4 a5 a6 a7 a8, l = [a0, a1, a2, a3, a4, a5, a6, a7, a8] := by
 match l, h with
 | [a0, a1, a2, a3, a4, a5, a6, a7, a8], _ => exact ⟨a0, a1, a2, a3, a4, a5, a6, a7, a8, rfl⟩
theorem array3 {α : Type} {l : Array α} (h : l.size = 3) : ∃ a0 a1 a2, l = #[a0, a1, a2] := by
 obtain ⟨l⟩ := l
 match l, h with
 | [a0, a1, a2], _ => exact ⟨a0, a1, a2, rfl⟩
theorem list_of {α : Type} {n : Nat} {p : Nat → α → Prop} (h : ∀ i, i < n → ∃ x, p i x) : ∃ l : List α, l.length = n ∧ ∀ i x, l[i]? = some x → p i x := by
 induction n with
 | zero => exact ⟨[], rfl, fun i x hx => by simp at hx⟩
 | succ n ih =>
  obtain ⟨l, hl, hp⟩ := ih fun i hi => h i (by omega)
  obtain ⟨y, hy⟩ := h n (by omega)
  refine ⟨l ++ [y], by simp [hl], fun i x hx => ?_⟩
  by_cases hi : i < n
  ·
   rw [List.getElem?_append_left (by omega)] at hx
   exact hp i x hx
  ·
   rw [List.getElem?_append_right (by omega)] at hx
   have hlt := (List.getElem?_eq_some_iff.1 hx).1
   simp only [List.length_singleton] at hlt
   obtain rfl : i = n := by omega
   rw [hl, Nat.sub_self] at hx
   obtain rfl := Option.some.inj hx
   exact hy

variable {H : Type} {enc : TypeId × Value → H} {w : World} {base : Nat} {spare : Nat → Bool} {held : Bool} {n : Nat} {cs : List Value} {x : DataW H × List MemPlace}
theorem i64_ok {n : Int} (h : (Lit.int .i64 n).wf = true) : I64 n := i64_wf h
theorem action_read (h : DataW.trod enc Tryz.prog w base spare held n 24 cs = some x) : ∃ a : ACT, cs = [.int .i64 a.kind, .int .i64 a.errno] ∧ AcOk a := by
 obtain ⟨f0, f1, hu, ⟨t0, t1⟩, o0, o1⟩ := action_fields
 obtain ⟨xs, m, _, _, hl, hlen, hf⟩ := DataW.trod_struct hu h
 rw [cells_action] at hl
 obtain ⟨a0, a1, rfl⟩ := list2 hl
 have g0 := hf 0 f0 rfl
 have g1 := hf 1 f1 rfl
 have hlt : xs.length = 2 := hlen
 rw [t0, o0, cells_i, List.getElem?_eq_getElem (by omega)] at g0
 rw [t1, o1, cells_i, List.getElem?_eq_getElem (by omega)] at g1
 obtain ⟨s0, q0, _, w0⟩ := DataW.trod_int Tryz.underlying3 g0
 obtain ⟨s1, q1, _, w1⟩ := DataW.trod_int Tryz.underlying3 g1
 simp at q0 q1
 subst q0 q1
 exact ⟨⟨s0, s1⟩, rfl, ⟨i64_ok w0, i64_ok w1⟩⟩
theorem net_read (h : DataW.trod enc Tryz.prog w base spare held n 45 cs = some x) : ∃ a : NT, cs = [.int .u32 a.ip, .int .i64 a.bits, .int .i64 a.lo, .int .i64 a.hi] ∧ NtOk a := by
 obtain ⟨f0, f1, f2, f3, hu, ⟨t0, t1, t2, t3⟩, o0, o1, o2, o3⟩ := net_fields
 obtain ⟨xs, m, _, _, hl, hlen, hf⟩ := DataW.trod_struct hu h
 rw [cells_net] at hl
 obtain ⟨a0, a1, a2, a3, rfl⟩ := list4 hl
 have g0 := hf 0 f0 rfl
 have g1 := hf 1 f1 rfl
 have g2 := hf 2 f2 rfl
 have g3 := hf 3 f3 rfl
 have hlt : xs.length = 4 := hlen
 rw [t0, o0, cells_32, List.getElem?_eq_getElem (by omega)] at g0
 rw [t1, o1, cells_i, List.getElem?_eq_getElem (by omega)] at g1
 rw [t2, o2, cells_i, List.getElem?_eq_getElem (by omega)] at g2
 rw [t3, o3, cells_i, List.getElem?_eq_getElem (by omega)] at g3
 obtain ⟨s0, q0, _, w0⟩ := DataW.trod_int Tryz.underlying43 g0
 obtain ⟨s1, q1, _, w1⟩ := DataW.trod_int Tryz.underlying3 g1
 obtain ⟨s2, q2, _, w2⟩ := DataW.trod_int Tryz.underlying3 g2
 obtain ⟨s3, q3, _, w3⟩ := DataW.trod_int Tryz.underlying3 g3
 simp at q0 q1 q2 q3
 obtain ⟨k0, rfl, h0⟩ := u32_wf w0
 subst q0 q1 q2 q3
 exact ⟨⟨k0, s1, s2, s3⟩, rfl, ⟨h0, i64_ok w1, i64_ok w2, i64_ok w3⟩⟩
theorem cond_read (h : DataW.trod enc Tryz.prog w base spare held n 47 cs = some x) :
  ∃ c : CD, cs = [.int .i64 c.arg, .int .i64 c.op, .int .u64 c.v, .int .u64 c.m, .string c.glob, .int .u32 c.net.ip, .int .i64 c.net.bits, .int .i64 c.net.lo, .int .i64 c.net.hi] ∧ CdOk c := by
 obtain ⟨f0, f1, f2, f3, f4, f5, hu, ⟨t0, t1, t2, t3, t4, t5⟩, o0, o1, o2, o3, o4, o5⟩ := cond_fields
 obtain ⟨xs, m, _, _, hl, hlen, hf⟩ := DataW.trod_struct hu h
 rw [cells_cond] at hl
 obtain ⟨a0, a1, a2, a3, a4, a5, a6, a7, a8, rfl⟩ := list9 hl
 have g0 := hf 0 f0 rfl
 have g1 := hf 1 f1 rfl
 have g2 := hf 2 f2 rfl
 have g3 := hf 3 f3 rfl
 have g4 := hf 4 f4 rfl
 have g5 := hf 5 f5 rfl
 have hlt : xs.length = 6 := hlen
 rw [t0, o0, cells_i, List.getElem?_eq_getElem (by omega)] at g0
 rw [t1, o1, cells_i, List.getElem?_eq_getElem (by omega)] at g1
 rw [t2, o2, cells_64, List.getElem?_eq_getElem (by omega)] at g2
 rw [t3, o3, cells_64, List.getElem?_eq_getElem (by omega)] at g3
 rw [t4, o4, cells_s, List.getElem?_eq_getElem (by omega)] at g4
 rw [t5, o5, cells_net, List.getElem?_eq_getElem (by omega)] at g5
 obtain ⟨nt, q5, hnt⟩ := net_read g5
 obtain ⟨s0, q0, _, w0⟩ := DataW.trod_int Tryz.underlying3 g0
 obtain ⟨s1, q1, _, w1⟩ := DataW.trod_int Tryz.underlying3 g1
 obtain ⟨s2, q2, _, w2⟩ := DataW.trod_int Tryz.underlying42 g2
 obtain ⟨s3, q3, _, w3⟩ := DataW.trod_int Tryz.underlying42 g3
 obtain ⟨s4, q4, _, _⟩ := DataW.trod_string Tryz.underlying9 g4
 simp at q0 q1 q2 q3 q4 q5
 obtain ⟨k2, rfl, h2⟩ := u64_wf w2
 obtain ⟨k3, rfl, h3⟩ := u64_wf w3
 obtain ⟨q5, q6, q7, q8⟩ := q5
 subst q0 q1 q2 q3 q4 q5 q6 q7 q8
 exact ⟨⟨s0, s1, k2, k3, s4, nt⟩, rfl, ⟨i64_ok w0, i64_ok w1, h2, h3, hnt⟩⟩

set_option maxRecDepth 100000 in
theorem conds_read {W : World} (h : DataW.trod enc Tryz.prog W 0 (fun _ => true) true n 39 cs = some x) :
  ∃ (oa : Option Addr) (l : List CD) (cap : Nat), cs = [.slice oa l.length cap] ∧ l.length ≤ cap ∧ cap ≤ maxLen ∧ IsConds oa l W ∧ ∀ c ∈ l, CdOk c := by
 rcases Go.Deep.open_slice Tryz.underlying39 h with ⟨rfl, _⟩ | ⟨a, len, cap, m, fu, D, Pl, rfl, _, hl, hm, hmm, _, hx⟩
 ·
  exact ⟨none, [], 0, rfl, Nat.le_refl _, Nat.zero_le _, IsConds.nil _ _, fun c hc => by simp at hc⟩
 ·
  rw [if_pos rfl] at hmm
  subst hmm
  rw [cells_cond] at hx
  obtain ⟨l, hll, hp⟩ := list_of (n := len) (p := fun i (c : CD) => ∃ cs', W.cells? 0 (a.add (i * 9)) 9 = some cs' ∧ cs' = [.int .i64 c.arg, .int .i64 c.op, .int .u64 c.v, .int .u64 c.m, .string c.glob, .int .u32 c.net.ip, .int .i64 c.net.bits, .int .i64 c.net.lo, .int .i64 c.net.hi] ∧ CdOk c) fun i hi => by
   obtain ⟨cs', h1, h2⟩ := hx i (by omega)
   obtain ⟨c, h3, h4⟩ := cond_read h2
   exact ⟨c, cs', h1, h3, h4⟩
  subst hll
  refine ⟨some a, l, m, rfl, hl, hm, ⟨fun h0 => ?_⟩, fun c hc => ?_⟩
  ·
   obtain ⟨b, off, spot⟩ := a
   obtain ⟨cs0, k1, k2, _⟩ := hp 0 l[0] (List.getElem?_eq_getElem h0)
   have hc0 := (World.cells?_some k1).2.2 0 (by omega)
   rw [k2] at hc0
   have hspot : spot = none := by simpa [Addr.add] using World.cell?_spot hc0
   subst hspot
   refine ⟨b, off, rfl, World.cells?_block (by rw [Nat.zero_mul] at k1; simpa [Addr.add] using k1) (by omega : 0 < 9), fun i c hi => ?_⟩
   obtain ⟨cs', k1, rfl, k3⟩ := hp i c hi
   exact ⟨elem_cells k1 0 (by omega), elem_cells k1 1 (by omega), elem_cells k1 2 (by omega), elem_cells k1 3 (by omega), elem_cells k1 4 (by omega), elem_cells k1 5 (by omega), elem_cells k1 6 (by omega), elem_cells k1 7 (by omega), elem_cells k1 8 (by omega), k3⟩
  ·
   obtain ⟨i, hi, rfl⟩ := List.mem_iff_getElem.1 hc
   obtain ⟨_, _, _, k3⟩ := hp i _ (List.getElem?_eq_getElem hi)
   exact k3
theorem rule_read {W : World} (h : DataW.trod enc Tryz.prog W 0 (fun _ => true) true n 41 cs = some x) :
  ∃ (r : RL) (oa : Option Addr) (cap : Nat), cs = [.int .i64 r.nr, .slice oa r.conds.length cap, .int .i64 r.act.kind, .int .i64 r.act.errno] ∧ r.conds.length ≤ cap ∧ cap ≤ maxLen ∧ IsConds oa r.conds W ∧ RlOk r := by
 obtain ⟨f0, f1, f2, hu, ⟨t0, t1, t2⟩, o0, o1, o2⟩ := rule_fields
 obtain ⟨xs, m, _, _, hl, hlen, hf⟩ := DataW.trod_struct hu h
 rw [cells_rule] at hl
 obtain ⟨a0, a1, a2, a3, rfl⟩ := list4 hl
 have g0 := hf 0 f0 rfl
 have g1 := hf 1 f1 rfl
 have g2 := hf 2 f2 rfl
 have hlt : xs.length = 3 := hlen
 rw [t0, o0, cells_i, List.getElem?_eq_getElem (by omega)] at g0
 rw [t1, o1, cells_conds, List.getElem?_eq_getElem (by omega)] at g1
 rw [t2, o2, cells_action, List.getElem?_eq_getElem (by omega)] at g2
 obtain ⟨s0, q0, _, w0⟩ := DataW.trod_int Tryz.underlying3 g0
 obtain ⟨oa, l, cap, q1, hlc, hcm, hic, hok⟩ := conds_read g1
 obtain ⟨ac, q2, hac⟩ := action_read g2
 simp at q0 q1 q2
 obtain ⟨q2, q3⟩ := q2
 subst q0 q1 q2 q3
 exact ⟨⟨s0, l, ac⟩, oa, cap, rfl, hlc, hcm, hic, ⟨i64_ok w0, hok, hac⟩⟩

set_option maxRecDepth 100000 in
theorem rules_read {W : World} (h : DataW.trod enc Tryz.prog W 0 (fun _ => true) true n 22 cs = some x) :
  ∃ (oa : Option Addr) (l : List RL) (cap : Nat), cs = [.slice oa l.length cap] ∧ l.length ≤ cap ∧ cap ≤ maxLen ∧ IsRules oa l W ∧ ∀ r ∈ l, RlOk r := by
 rcases Go.Deep.open_slice Tryz.underlying22 h with ⟨rfl, _⟩ | ⟨a, len, cap, m, fu, D, Pl, rfl, _, hl, hm, hmm, _, hx⟩
 ·
  exact ⟨none, [], 0, rfl, Nat.le_refl _, Nat.zero_le _, IsRules.nil _ _, fun c hc => by simp at hc⟩
 ·
  rw [if_pos rfl] at hmm
  subst hmm
  rw [cells_rule] at hx
  obtain ⟨l, hll, hp⟩ := list_of (n := len) (p := fun i (r : RL) => ∃ cs', W.cells? 0 (a.add (i * 4)) 4 = some cs' ∧ ∃ (oa : Option Addr) (cap : Nat), cs' = [.int .i64 r.nr, .slice oa r.conds.length cap, .int .i64 r.act.kind, .int .i64 r.act.errno] ∧ r.conds.length ≤ cap ∧ cap ≤ maxLen ∧ IsConds oa r.conds W ∧ RlOk r) fun i hi => by
   obtain ⟨cs', h1, h2⟩ := hx i (by omega)
   obtain ⟨r, oa, cap, h3, h4⟩ := rule_read h2
   exact ⟨r, cs', h1, oa, cap, h3, h4⟩
  subst hll
  refine ⟨some a, l, m, rfl, hl, hm, ⟨fun h0 => ?_⟩, fun c hc => ?_⟩
  ·
   obtain ⟨b, off, spot⟩ := a
   obtain ⟨cs0, k1, _, _, k2, _⟩ := hp 0 l[0] (List.getElem?_eq_getElem h0)
   have hc0 := (World.cells?_some k1).2.2 0 (by omega)
   rw [k2] at hc0
   have hspot : spot = none := by simpa [Addr.add] using World.cell?_spot hc0
   subst hspot
   refine ⟨b, off, rfl, World.cells?_block (by rw [Nat.zero_mul] at k1; simpa [Addr.add] using k1) (by omega : 0 < 4), fun i c hi => ?_⟩
   obtain ⟨cs', k1, oa, cc, rfl, k3, k4, k5, k6⟩ := hp i c hi
   exact ⟨oa, cc, elem_cells k1 0 (by omega), elem_cells k1 1 (by omega), elem_cells k1 2 (by omega), elem_cells k1 3 (by omega), k5, k3, k4, k6⟩
  ·
   obtain ⟨i, hi, rfl⟩ := List.mem_iff_getElem.1 hc
   obtain ⟨_, _, _, _, _, _, _, _, k6⟩ := hp i _ (List.getElem?_eq_getElem hi)
   exact k6

set_option maxRecDepth 100000 in
theorem open_pol {W : World} {v : Value} {d : DataW H} {p : List MemPlace} {r : Reach} {b0 : Nat} (hv : Value.okWide Tryz.prog W r b0 26 v) (h : DataW.Trod enc Tryz.prog W 0 (fun _ => true) true 26 v d p) :
  ∃ (q : POL) (oa : Option Addr) (cap : Nat), v = polV q oa cap ∧ IsPol oa cap q W := by
 obtain ⟨f0, f1, hu, ⟨t0, t1⟩, o0, o1⟩ := pol_fields
 obtain ⟨cs, rfl, hsz⟩ := okWide_struct hu hv
 obtain ⟨a0, a1, a2, rfl⟩ := array3 (hsz.trans cells_pol)
 obtain ⟨fuel, hf⟩ := h
 obtain ⟨xs, m, _, _, hl, hlen, hf⟩ := DataW.trod_struct hu hf
 have g0 := hf 0 f0 rfl
 have g1 := hf 1 f1 rfl
 have hlt : xs.length = 2 := hlen
 rw [t0, o0, cells_rules, List.getElem?_eq_getElem (by omega)] at g0
 rw [t1, o1, cells_action, List.getElem?_eq_getElem (by omega)] at g1
 obtain ⟨oa, l, cap, q0, hlc, hcm, hir, hok⟩ := rules_read g0
 obtain ⟨ac, q1, hac⟩ := action_read g1
 simp [Value.cells] at q0 q1
 obtain ⟨q1, q2⟩ := q1
 subst q0 q1 q2
 exact ⟨⟨l, ac⟩, oa, cap, rfl, ⟨hir, hlc, hcm, ⟨hok, hac⟩⟩⟩

end Go.Proofs.YtklibmijiecbfaaGreat
