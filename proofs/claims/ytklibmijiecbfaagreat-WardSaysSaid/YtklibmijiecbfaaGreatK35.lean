/- Each act on memory, the code's and the document's, side by side. -/
import Derived.Test.YtklibmijiecbfaaGreatK2
import Derived.Test.YtklibmijiecbfaaGreatK34
import Derived.Laws.StructEq
import Derived.Test.YtklibmijiecbfaaGreatK32
import Derived.Test.YtklibmijiecbfaaGreatK11
namespace Go.Proofs.YtklibmijiecbfaaGreat.Bp
end Go.Proofs.YtklibmijiecbfaaGreat.Bp
namespace Go.Proofs.YtklibmijiecbfaaGreat.Mm
open Go.Proofs.YtklibmijiecbfaaGreat.Bp
open Go.RowKit

theorem PW_grown (B : MB) (m : MS) (k : Nat) : B.W.grownBy (PW B m k) (some B.g) :=
 ⟨rfl, rfl, rfl, by show B.W.heap.size ≤ (B.W.heap.modify _ _).size; rw [Array.size_modify]; exact Nat.le_refl _, fun j _ hne => by
  show (B.W.heap.modify _ _)[j]? = _
  rw [Array.getElem?_modify, if_neg (fun e => hne (by rw [e]))]⟩
def CodeC (fn : FuncId) (args : Array Value) (g : Nat) (m m' : MS) (v : Value) : Prop := ∀ W, IsM g m W → Calls Tryz.prog fn args W fun e w' => e = .returned v ∧ IsM g m' w' ∧ W.grownBy w' (some g)
theorem codeC_of {fn : FuncId} {args : Nat → Array Value} {g : Nat} {m m' : MS} {v : Value} (h : ∀ B : MB, Calls Tryz.prog fn (args B.g) (PW B m 0) fun e w' => e = .returned v ∧ ∃ k', w' = PW B m' k') : CodeC fn (args g) g m m' v := fun W hM => by
 have hc := h ⟨W, g, m, hM⟩
 rw [← PW_of hM] at hc
 exact hc.mono fun e w' ⟨he, k', hw⟩ => ⟨he, by rw [hw]; exact PW_isM _ _ _, by rw [hw]; exact PW_grown ⟨W, g, m, hM⟩ _ _⟩
theorem same_err (f : Nat) (w : World) : Calls Tryz.prog 10 #[errV f, .int .i64 f] w fun e w' => e = .returned (.bool true) ∧ w' = w := by
 by_cases h : f = 0
 ·
  subst h
  exact (same_nil 0 w).mono fun e w' ⟨he, hw⟩ => ⟨he, hw⟩
 ·
  rw [errV_pos h]
  refine (same_errno f f w).mono fun e w' ⟨he, hw⟩ => ⟨?_, hw⟩
  rw [he]
  congr 2
  simp
  omega
end Go.Proofs.YtklibmijiecbfaaGreat.Mm

/- asMem, stays. -/
namespace Go.Proofs.YtklibmijiecbfaaGreat.Bp
end Go.Proofs.YtklibmijiecbfaaGreat.Bp
namespace Go.Proofs.YtklibmijiecbfaaGreat.Mm
open Go.Proofs.YtklibmijiecbfaaGreat.Bp
open Go.RowKit

structure Kp (g h : Nat) (W w' : World) : Prop where
 os : w'.os = W.os
 tape : w'.tape = W.tape
 output : w'.output = W.output
 size : W.heap.size ≤ w'.heap.size
 block : ∀ j, j < W.heap.size → j ≠ g → j ≠ h → w'.heap[j]? = W.heap[j]?
theorem Kp.trans {g h : Nat} {a b c : World} (x : Kp g h a b) (y : Kp g h b c) : Kp g h a c :=
 ⟨y.os.trans x.os, y.tape.trans x.tape, y.output.trans x.output, Nat.le_trans x.size y.size, fun j hj h1 h2 => (y.block j (Nat.lt_of_lt_of_le hj x.size) h1 h2).trans (x.block j hj h1 h2)⟩
theorem Kp.ofG {g h : Nat} {W w' : World} (x : W.grownBy w' (some g)) : Kp g h W w' := ⟨x.os, x.tape, x.output, x.size, fun j hj h1 _ => x.block j hj fun e => h1 (Option.some.inj e)⟩
theorem Kp.ofH {g h : Nat} {W w' : World} (x : W.grownBy w' (some h)) : Kp g h W w' := ⟨x.os, x.tape, x.output, x.size, fun j hj _ h2 => x.block j hj fun e => h2 (Option.some.inj e)⟩
theorem IsM.keep {g h : Nat} {m : MS} {W w' : World} (x : IsM g m W) (y : W.grownBy w' (some h)) (hne : g ≠ h) : IsM g m w' := (y.block g x.lt fun e => hne (Option.some.inj e)).trans x

end Go.Proofs.YtklibmijiecbfaaGreat.Mm

/- A struct is equal to itself. -/
namespace Go.Proofs.YtklibmijiecbfaaGreat
open Go.RowKit Mm

def PartSelf (d : Nat) (t : TypeId) (xs : Array Value) (off : Nat) : Prop := ∃ v, (∀ w : World, (part t xs off).run Tryz.prog w = .ok v w) ∧ ∀ w : World, (Op.equalIn d t v v).run Tryz.prog w = .ok true w
theorem self_fields (d : Nat) (xs : Array Value) : ∀ (fs : List Field), (∀ f ∈ fs, PartSelf d f.type xs f.offset) → ∀ w : World, (Op.eqFields d xs xs fs).run Tryz.prog w = .ok true w
 | [], _, w => by simp [Op.eqFields]
 | f :: fs, h, w => by
  obtain ⟨v, h1, h2⟩ := h f (by simp)
  have ih := self_fields d xs fs (fun g hg => h g (by simp [hg])) w
  simp only [Op.eqFields, Sem.run_bind, Sem.run_ite, h1, h2, Result.andThen_ok, Bool.not_true, Bool.false_eq_true, if_false, ih]
  split <;> rfl
theorem self_struct {d : Nat} {t : TypeId} {xs : Array Value} {fs : List Field} (ht : Tryz.prog.underlying t = some (.struct (Tryz.prog.fieldsOf t))) (hp : Tryz.prog.stoodInHeld t = false) (hf : (Tryz.prog.fieldsOf t).toList = fs) (h : ∀ f ∈ fs, PartSelf d f.type xs f.offset) (w : World) : (Op.equalIn (d + 1) t (.agg xs) (.agg xs)).run Tryz.prog w = .ok true w := by
 rw [run_equalIn_struct w d t xs xs ht hp, hf]
 exact self_fields d xs fs h w
theorem part_one {d : Nat} {t : TypeId} {xs : Array Value} {off : Nat} {v : Value} (ha : ∀ w : World, (isAgg t).run Tryz.prog w = .ok false w) (hv : xs[off]? = some v) (hs : ∀ w : World, (Op.equalIn d t v v).run Tryz.prog w = .ok true w) : PartSelf d t xs off :=
 ⟨v, fun w => by simp [part, ha, hv], hs⟩
theorem self_four {d : Nat} {t elem : TypeId} {xs : Array Value} {n : Nat} (hu : Tryz.prog.underlying t = some (.array 4 elem)) (hs : (Tryz.prog.info? elem).map (·.size) = some n) (h : ∀ i, i < 4 → PartSelf d elem xs (i * n)) (w : World) : (Op.equalIn (d + 1) t (.agg xs) (.agg xs)).run Tryz.prog w = .ok true w := by
 obtain ⟨v0, a0, b0⟩ := h 0 (by omega)
 obtain ⟨v1, a1, b1⟩ := h 1 (by omega)
 obtain ⟨v2, a2, b2⟩ := h 2 (by omega)
 obtain ⟨v3, a3, b3⟩ := h 3 (by omega)
 rw [Nat.zero_mul] at a0
 rw [Nat.one_mul] at a1
 cases hq : Tryz.prog.info? elem with
 | none => simp [hq] at hs
 | some i =>
  have hi : i.size = n := by simpa [hq] using hs
  have hsz : ∀ w : World, (sizeOf elem).run Tryz.prog w = .ok n w := fun w => by simp [sizeOf, typeInfo, hq, hi]
  simp only [Op.equalIn, Sem.run_bind, run_underlying hu, Result.andThen_ok, hsz]
  simp [List.range', a0, a1, a2, a3, b0, b1, b2, b3, Result.andThen]
theorem self_struct' {d : Nat} {t : TypeId} {xs : Array Value} {fs : Array Field} (hu : Tryz.prog.underlying t = some (.struct fs)) (hp : Tryz.prog.stoodInHeld t = false) (h : ∀ f ∈ fs.toList, PartSelf d f.type xs f.offset) (w : World) : (Op.equalIn (d + 1) t (.agg xs) (.agg xs)).run Tryz.prog w = .ok true w := by
 have hf : Tryz.prog.fieldsOf t = fs := by unfold Program.fieldsOf; rw [hu]
 exact self_struct (by rw [hf]; exact hu) hp (by rw [hf]) h w
theorem part_agg {d : Nat} {t : TypeId} {xs : Array Value} {off n : Nat} (ha : ∀ w : World, (isAgg t).run Tryz.prog w = .ok true w) (hs : (Tryz.prog.info? t).map (·.size) = some n) {ys : Array Value} (hy : xs.extract off (off + n) = ys) (h : ∀ w : World, (Op.equalIn d t (.agg ys) (.agg ys)).run Tryz.prog w = .ok true w) : PartSelf d t xs off := by
 cases hq : Tryz.prog.info? t with
 | none => simp [hq] at hs
 | some i =>
  have hi : i.size = n := by simpa [hq] using hs
  have hsz : ∀ w : World, (sizeOf t).run Tryz.prog w = .ok n w := fun w => by simp [sizeOf, typeInfo, hq, hi]
  exact ⟨.agg ys, fun w => by simp [part, ha, hsz, hy], h⟩
theorem self_int {d : Nat} {t : TypeId} {k' : IntKind} (hu : Tryz.prog.underlying t = some (.int k')) (k : IntKind) (a : Int) (w : World) : (Op.equalIn (d + 1) t (.int k a) (.int k a)).run Tryz.prog w = .ok true w := by
 rw [run_equalIn_int w d t k k' a a hu, beq_self_eq_true]
theorem self_str {d : Nat} {t : TypeId} (hu : Tryz.prog.underlying t = some .string) (a : ByteArray) (w : World) : (Op.equalIn (d + 1) t (.string a) (.string a)).run Tryz.prog w = .ok true w := by
 rw [run_equalIn_string w d t a a hu, beq_self_eq_true]
theorem na_int : ∀ w : World, (isAgg 3).run Tryz.prog w = .ok false w := fun w => by kernel_rfl
theorem na_u32 : ∀ w : World, (isAgg 43).run Tryz.prog w = .ok false w := fun w => by kernel_rfl
theorem na_u64 : ∀ w : World, (isAgg 42).run Tryz.prog w = .ok false w := fun w => by kernel_rfl
theorem na_str : ∀ w : World, (isAgg 9).run Tryz.prog w = .ok false w := fun w => by kernel_rfl
theorem ag_call : ∀ w : World, (isAgg 52).run Tryz.prog w = .ok true w := fun w => by kernel_rfl
theorem ag_arr : ∀ w : World, (isAgg 50).run Tryz.prog w = .ok true w := fun w => by kernel_rfl
theorem ag_vals : ∀ w : World, (isAgg 68).run Tryz.prog w = .ok true w := fun w => by kernel_rfl
theorem ag_value : ∀ w : World, (isAgg 66).run Tryz.prog w = .ok true w := fun w => by kernel_rfl
theorem call_fs : ∃ f0 f1 f2 : Field, Tryz.prog.underlying 52 = some (.struct #[f0, f1, f2]) ∧ (f0.type = 43 ∧ f1.type = 43 ∧ f2.type = 50) ∧ (f0.offset = 0 ∧ f1.offset = 1 ∧ f2.offset = 2) :=
 ⟨_, _, _, Tryz.underlying52, ⟨by kernel_rfl, by kernel_rfl, by kernel_rfl⟩, by kernel_rfl, by kernel_rfl, by kernel_rfl⟩
theorem value_fs : ∃ f0 f1 f2 : Field, Tryz.prog.underlying 66 = some (.struct #[f0, f1, f2]) ∧ (f0.type = 9 ∧ f1.type = 43 ∧ f2.type = 3) ∧ (f0.offset = 0 ∧ f1.offset = 1 ∧ f2.offset = 2) :=
 ⟨_, _, _, Tryz.underlying66, ⟨by kernel_rfl, by kernel_rfl, by kernel_rfl⟩, by kernel_rfl, by kernel_rfl, by kernel_rfl⟩
theorem entry_fs : ∃ f0 f1 f2 f3 f4 : Field, Tryz.prog.underlying 70 = some (.struct #[f0, f1, f2, f3, f4]) ∧ (f0.type = 3 ∧ f1.type = 3 ∧ f2.type = 52 ∧ f3.type = 68 ∧ f4.type = 3) ∧ (f0.offset = 0 ∧ f1.offset = 1 ∧ f2.offset = 2 ∧ f3.offset = 8 ∧ f4.offset = 20) :=
 ⟨_, _, _, _, _, Tryz.underlying70, ⟨by kernel_rfl, by kernel_rfl, by kernel_rfl, by kernel_rfl, by kernel_rfl⟩, by kernel_rfl, by kernel_rfl, by kernel_rfl, by kernel_rfl, by kernel_rfl⟩
theorem self_call (d : Nat) (c : KL) (w : World) : (Op.equalIn (d + 3) 52 (.agg (klC c)) (.agg (klC c))).run Tryz.prog w = .ok true w := by
 obtain ⟨f0, f1, f2, hu, ⟨t0, t1, t2⟩, o0, o1, o2⟩ := call_fs
 refine self_struct' hu (by kernel_rfl) (fun f hf => ?_) w
 simp only [List.mem_cons, List.not_mem_nil, or_false] at hf
 rcases hf with rfl | rfl | rfl
 ·
  rw [t0, o0]; exact part_one na_u32 rfl (self_int Tryz.underlying43 _ _)
 ·
  rw [t1, o1]; exact part_one na_u32 rfl (self_int Tryz.underlying43 _ _)
 ·
  rw [t2, o2]
  refine part_agg (n := 4) ag_arr (by kernel_rfl) (ys := #[.int .u64 c.a0, .int .u64 c.a1, .int .u64 c.a2, .int .u64 c.a3]) rfl (self_four Tryz.underlying50 (n := 1) (by kernel_rfl) fun i hi => ?_)
  rcases show i = 0 ∨ i = 1 ∨ i = 2 ∨ i = 3 by omega with rfl | rfl | rfl | rfl <;> exact part_one na_u64 rfl (self_int Tryz.underlying42 _ _)
theorem self_value (d : Nat) (v : VL) (w : World) : (Op.equalIn (d + 2) 66 (.agg (vlC v)) (.agg (vlC v))).run Tryz.prog w = .ok true w := by
 obtain ⟨f0, f1, f2, hu, ⟨t0, t1, t2⟩, o0, o1, o2⟩ := value_fs
 refine self_struct' hu (by kernel_rfl) (fun f hf => ?_) w
 simp only [List.mem_cons, List.not_mem_nil, or_false] at hf
 rcases hf with rfl | rfl | rfl
 ·
  rw [t0, o0]; exact part_one na_str rfl (self_str Tryz.underlying9 _)
 ·
  rw [t1, o1]; exact part_one na_u32 rfl (self_int Tryz.underlying43 _ _)
 ·
  rw [t2, o2]; exact part_one na_int rfl (self_int Tryz.underlying3 _ _)
theorem self_entry (d : Nat) (e : EN) (w : World) : (Op.equalIn (d + 4) 70 (.agg (entE e)) (.agg (entE e))).run Tryz.prog w = .ok true w := by
 obtain ⟨f0, f1, f2, f3, f4, hu, ⟨t0, t1, t2, t3, t4⟩, o0, o1, o2, o3, o4⟩ := entry_fs
 refine self_struct' hu (by kernel_rfl) (fun f hf => ?_) w
 simp only [List.mem_cons, List.not_mem_nil, or_false] at hf
 rcases hf with rfl | rfl | rfl | rfl | rfl
 ·
  rw [t0, o0]; exact part_one na_int rfl (self_int Tryz.underlying3 _ _)
 ·
  rw [t1, o1]; exact part_one na_int rfl (self_int Tryz.underlying3 _ _)
 ·
  rw [t2, o2]
  exact part_agg (n := 6) ag_call (by kernel_rfl) (ys := klC e.call) rfl (self_call d e.call)
 ·
  rw [t3, o3]
  refine part_agg (n := 12) ag_vals (by kernel_rfl) (ys := #[.string e.vals.v0.path, .int .u32 e.vals.v0.ip, .int .i64 e.vals.v0.port, .string e.vals.v1.path, .int .u32 e.vals.v1.ip, .int .i64 e.vals.v1.port, .string e.vals.v2.path, .int .u32 e.vals.v2.ip, .int .i64 e.vals.v2.port, .string e.vals.v3.path, .int .u32 e.vals.v3.ip, .int .i64 e.vals.v3.port]) rfl (self_four Tryz.underlying68 (n := 3) (by kernel_rfl) fun i hi => ?_)
  rcases show i = 0 ∨ i = 1 ∨ i = 2 ∨ i = 3 by omega with rfl | rfl | rfl | rfl
  ·
   exact part_agg (n := 3) ag_value (by kernel_rfl) (ys := vlC e.vals.v0) rfl (self_value d _)
  ·
   exact part_agg (n := 3) ag_value (by kernel_rfl) (ys := vlC e.vals.v1) rfl (self_value d _)
  ·
   exact part_agg (n := 3) ag_value (by kernel_rfl) (ys := vlC e.vals.v2) rfl (self_value d _)
  ·
   exact part_agg (n := 3) ag_value (by kernel_rfl) (ys := vlC e.vals.v3) rfl (self_value d _)
 ·
  rw [t4, o4]; exact part_one na_int rfl (self_int Tryz.underlying3 _ _)
theorem neq_entry (e : EN) (w : World) : (binOp .neq 70 (.agg (entE e)) (.agg (entE e))).run Tryz.prog w = .ok (.bool false) w := by
 rw [run_neq_struct, self_entry 9996 e w]
 rfl
end Go.Proofs.YtklibmijiecbfaaGreat

/- The walk of TopEnds. -/
namespace Go.Proofs.YtklibmijiecbfaaGreat
open Go.RowKit Mm

theorem wp_neq_self {o : Oper} {a : Act} {w : World} {K : Act → World → Prop} {Q : Exit → Act → World → Prop} (t : TypeId) (x y : Operand) (t2 : TypeId) (ho : o.op = .binOp .neq t x y t2) (xs : Array Value) (hx : a.eval x = .agg xs) (hy : a.eval y = .agg xs)
  (hg : (eqGuard .neq t x y (.agg xs) (.agg xs)).run Tryz.prog w = .ok () w) (h : (binOp .neq t (.agg xs) (.agg xs)).run Tryz.prog w = .ok (.bool false) w) (hK : K (a.put o.dst (.bool false)) w) : o.wp Tryz.prog a w K Q := by
 unfold Oper.wp execOp
 simp only [ho, hx, hy, Sem.run_bind, hg, h, Result.andThen_ok]
 exact hK
end Go.Proofs.YtklibmijiecbfaaGreat

/- SameLog of two alike; entered. -/
namespace Go.Proofs.YtklibmijiecbfaaGreat
open Go.RowKit Mm

theorem log_range {W : World} {b : Nat} {l : List EN} (h : W.heap[b]? = some (.cells (flatE l).toArray 70 (0, 0))) {i : Nat} {e : EN} (he : l[i]? = some e) : W.rangeAt b (i * 21) (entE e).toList := fun j v hv => log_cell h he j (by exact (List.getElem?_eq_some_iff.1 hv).1) hv
end Go.Proofs.YtklibmijiecbfaaGreat

/- asMem, the document's memory at an offset; SameLog of a log that was copied. -/
namespace Go.Proofs.YtklibmijiecbfaaGreat
open Go.RowKit Mm

theorem both_peek (o : Option Nat) : ∃ f x : Nat, byteV o = .tuple #[.int .u8 (x : Nat), errV f] ∧ rbyteV o = .tuple #[.int .u8 (x : Nat), .int .i64 (f : Nat)] := by
 cases o with
 | none => exact ⟨5, 0, rfl, rfl⟩
 | some x => exact ⟨0, x, rfl, rfl⟩
set_option maxRecDepth 20000 in
theorem asMemD_any {L : Vr.LY} {m : MS} {g : Nat} (hne : g ≠ L.g) {W : World} (hM : IsM g m W) (hD : Vr.IsD L m W) :
  Calls Tryz.prog 41 #[.pointer (some ⟨g, 0, none⟩), .pointer (some ⟨L.g, L.o, none⟩)] W fun e w' => e = .returned (.bool true) ∧ IsM g m w' ∧ Vr.IsD L m w' ∧ Kp g L.g W w' := by
 have HS : CodeC 72 #[.pointer (some ⟨g, 0, none⟩)] g m m (.int .i64 (cntM m 4 : Nat)) := codeC_of (args := fun g => #[.pointer (some ⟨g, 0, none⟩)]) fun B => sealed_any B m 0
 have HT := fun X (h : Vr.IsD L m X) => Vr.dsealed_any h
 have hc4 : cntM m 4 ≤ 4 := cntM_le m 4
 obtain ⟨x, hx⟩ : ∃ x, x = cntM m 4 := ⟨_, rfl⟩
 rw [← hx] at HS hc4
 simp only [← hx] at HT
 obtain ⟨gd, hgd⟩ : ∃ x, x = L.g := ⟨_, rfl⟩
 obtain ⟨od, hod⟩ : ∃ x, x = L.o := ⟨_, rfl⟩
 have HB := fun (a : Nat) (ha : a < 18446744073709551616) X (h : Vr.IsD L m X) => Vr.dbyte_any h a ha
 simp only [← hgd, ← hod] at HT HB
 rw [← hgd] at hne
 rw [← hgd, ← hod]
 have HNE := hide hne
 have HGD := hide hgd
 clear hx hgd hod
 go_enter Tryz.func41, Tryz.ntmps41
 go_wp2_with fail
 refine (HS _ hM).mono ?_
 rintro e w1 ⟨rfl, hM1, hg1⟩
 have hR1 := hide (show Vr.IsD L m w1 from hD.imp fun r hr => ⟨(hg1.block L.g hD.lt (fun e => HNE.out (by rw [HGD.out]; exact (Option.some.inj e).symm))).trans hr.1, hr.2⟩)
 replace hM1 := hide hM1
 have hK1 := hide (Kp.ofG (h := gd) hg1)
 clear hg1 hM hD
 go_wp2_with fail
 refine (HT _ hR1.out).mono ?_
 rintro e w2 ⟨rfl, hR2, hg2⟩
 have hM2 := hide (hM1.out.keep hg2 HNE.out)
 replace hR2 := hide hR2
 have hK2 := hide (hK1.out.trans (Kp.ofH (g := g) hg2))
 clear hg2 hK1 hM1 hR1 HS HT
 go_wp2
 go_loopw [5] (fun A wr => ∃ a : Nat, a ≤ 768 ∧ A = .int .u64 a ∧ wr = w2) (fun A _ => 768 - (intOf A).toNat)
 case atStart => exact ⟨0, by omega, rfl, rfl⟩
 case round =>
  obtain ⟨a, ha, rfl, rfl⟩ := hrel
  by_cases hlt : a < 768
  ·
   have HC := byte_isM hM2.out a (by omega)
   have HD := HB a (by omega) wr hR2.out
   obtain ⟨f, y, h1, h2⟩ := both_peek (peek m a)
   rw [h1] at HC
   rw [h2] at HD
   clear h1 h2
   go_wp2_with fail
   refine HC.mono ?_
   rintro e w3 ⟨rfl, hw3⟩
   rw [hw3]
   clear hw3 w3
   go_wp2_with fail
   refine HD.mono ?_
   rintro e w4 ⟨rfl, hw4⟩
   rw [hw4]
   clear hw4 w4 HC HD
   go_wp2_with fail
   refine (same_err f _).mono ?_
   rintro e w' ⟨rfl, rfl⟩
   go_wp2
   go_round
   case rel => exact ⟨a + 1, by omega, by go_num, trivial⟩
   case measure => simp [intOf]; omega
  ·
   obtain rfl : a = 768 := by omega
   go_wp2
   go_ret
   exact ⟨rfl, hM2.out, hR2.out, hK2.out⟩
theorem log_owned {W : World} {v : Value} {l : List EN} (h : W.ownsRow 0 70 21 v l.length (flatE l)) : ∃ o cap, v = .slice o l.length cap ∧ (0 < l.length → ∃ b, o = some ⟨b, 0, none⟩ ∧ b < W.heap.size ∧ ∀ i e, l[i]? = some e → W.rangeAt b (i * 21) (entE e).toList) := by
 rcases h.2 with ⟨rfl, h0⟩ | ⟨b, cap, cur, rfl, -, hrow, -, -, -, htk⟩
 ·
  exact ⟨none, 0, by rw [h0], fun hi => by omega⟩
 ·
  refine ⟨some ⟨b, 0, none⟩, cap, rfl, fun _ => ⟨b, rfl, (Array.getElem?_eq_some_iff.1 hrow).1, fun i e he j v hv => ?_⟩⟩
  have hi : i < l.length := (List.getElem?_eq_some_iff.1 he).1
  have hj : j < 21 := (List.getElem?_eq_some_iff.1 hv).1
  rw [cell_of_row _ _ _ _ _ _ hrow]
  have h1 := flatE_get l i e j he hj
  rw [hv, ← htk, List.getElem?_take, if_pos (by omega)] at h1
  simpa using h1
set_option maxHeartbeats 2000000 in
set_option maxRecDepth 20000 in
theorem sameLog2_any (l : List EN) (bA : Nat) (w : World) (hA : w.heap[bA]? = some (.cells (flatE l).toArray 70 (0, 0))) (lv : Value) (hown : w.ownsRow 0 70 21 lv l.length (flatE l)) (hl : l.length ≤ 1000000) :
  Calls Tryz.prog 40 #[.slice (some ⟨bA, 0, none⟩) l.length l.length, lv] w fun e w' => e = .returned (.bool true) ∧ Below w.heap.size w w' := by
 obtain ⟨oB, cB, hlv, hB⟩ := log_owned hown
 subst hlv
 clear hown
 obtain ⟨L, hL⟩ : ∃ x, x = l.length := ⟨_, rfl⟩
 rw [← hL] at hl
 rw [← hL]
 have HL := hide hL
 have HA := hide hA
 have HBB := hide hB
 clear hL hA hB
 go_enter Tryz.func40, Tryz.ntmps40
 go_wp2
 go_loopw [5] (fun I w' => ∃ j : Nat, j ≤ L ∧ I = .int .i64 j ∧ Hid (Below w.heap.size w w')) (fun I _ => L - (intOf I).toNat)
 case atStart => exact ⟨0, by omega, rfl, hide (Below.refl _ _)⟩
 case round =>
  obtain ⟨j, hj, rfl, HB⟩ := hrel
  have t1 : (0 : Int) ≤ j := by omega
  by_cases hlj : j < L
  ·
   have t2 : (j : Int) < L := by omega
   obtain ⟨en, hen⟩ : ∃ e, l[j]? = some e := ⟨_, List.getElem?_eq_getElem (by rw [← HL.out]; exact hlj)⟩
   have rgA : wr.drew.rangeAt bA (j * 21) (entE en).toList := log_range (W := wr.drew) ((HB.out.block _ (Array.getElem?_eq_some_iff.1 HA.out).1).trans HA.out) hen
   obtain ⟨bB, rfl, hbl, hbr⟩ := HBB.out (by rw [← HL.out]; omega)
   have rgB : wr.drew.rangeAt bB (j * 21) (entE en).toList := fun q v hv => keep_cell (show Below w.heap.size w wr.drew from below_next HB.out (Below.refl _ _).drew) (hbr j en hen q v hv)
   clear hbr
   clear hen
   go_wp2_with fail
   refine wp_region_any (by kernel_rfl) ?_
   change wpAny _ _ _ _ _ _ _ (World.drew _)
   refine Gl.wpAny_takeOf 0 (some 17) (.slice (some ⟨bA, 0, none⟩) L L) rfl rfl (by kernel_rfl) (by kernel_rfl) (by kernel_rfl) (fun _ _ _ h => h) (Or.inl ⟨by rfl, ?_⟩) ?_
   ·
    intro wx
    go_simp
   try simp only [Act.put, LT1, LT2, LT3]
   refine Gl.wpAny_takeOf 1 (some 18) (.int .i64 (j : Nat)) rfl rfl (by kernel_rfl) (by kernel_rfl) (by kernel_rfl) (fun _ _ _ h => h) (Or.inl ⟨by rfl, ?_⟩) ?_
   ·
    intro wx
    go_simp
   try simp only [Act.put, LT1, LT2, LT3]
   refine Gl.wpAny_takeOf 2 (some 19) (Value.pointer (some ⟨bA, j * 21, none⟩)) rfl rfl (by kernel_rfl) (by kernel_rfl) (by kernel_rfl) (fun _ _ _ h => h) (Or.inl ⟨by rfl, ?_⟩) ?_
   ·
    intro wx
    go_simp
   try simp only [Act.put, LT1, LT2, LT3]
   refine Gl.wpAny_takeOf 4 (some 21) (.slice (some ⟨bB, 0, none⟩) L cB) rfl rfl (by kernel_rfl) (by kernel_rfl) (by kernel_rfl) (fun _ _ _ h => h) (Or.inl ⟨by rfl, ?_⟩) ?_
   ·
    intro wx
    go_simp
   try simp only [Act.put, LT1, LT2, LT3]
   refine Gl.wpAny_takeOf 5 (some 22) (.int .i64 (j : Nat)) rfl rfl (by kernel_rfl) (by kernel_rfl) (by kernel_rfl) (fun _ _ _ h => h) (Or.inl ⟨by rfl, ?_⟩) ?_
   ·
    intro wx
    go_simp
   try simp only [Act.put, LT1, LT2, LT3]
   refine Gl.wpAny_takeOf 6 (some 23) (Value.pointer (some ⟨bB, j * 21, none⟩)) rfl rfl (by kernel_rfl) (by kernel_rfl) (by kernel_rfl) (fun _ _ _ h => h) (Or.inl ⟨by rfl, ?_⟩) ?_
   ·
    intro wx
    go_simp
   try simp only [Act.put, LT1, LT2, LT3]
   refine wpAny_two (i := 3) (j := 7) (by kernel_rfl) rfl rfl rfl rfl (fun K hK => ?_) (fun K hK => ?_)
   ·
    refine wp_load_mid (P := Tryz.prog) 70 _ rfl bA (j * 21) rfl (entE en).toList _ rgA Tryz.underlying70 rfl size_entry ?_
    refine hK _ _ ?_
    clear hK K
    try simp only [Act.put, LT1, LT2, LT3]
    refine Gl.wpAny_only (i := 7) (by kernel_rfl) rfl rfl (fun K hK => ?_)
    refine wp_load_mid (P := Tryz.prog) 70 _ rfl bB (j * 21) rfl (entE en).toList _ rgB Tryz.underlying70 rfl size_entry ?_
    refine hK _ _ ?_
    clear hK K
    try simp only [Act.put, LT1, LT2, LT3]
    refine Gl.wpAny_only (i := 8) (by kernel_rfl) rfl rfl (fun K hK => ?_)
    refine wp_neq_self 70 _ _ _ rfl (entE en) rfl rfl (run_eqGuard_agg _ _ _ _ _ _ _ (by kernel_rfl)) (neq_entry en _) ?_
    refine hK _ _ ?_
    clear hK K
    try simp only [Act.put, LT1, LT2, LT3]
    refine wpAny_done (by kernel_rfl) ?_ _
    go_wp2
    go_round
    case rel => exact ⟨j + 1, by omega, by go_num, hide (below_next HB.out (Below.refl _ _).drew)⟩
    case measure => simp [intOf]; omega
   ·
    refine wp_load_mid (P := Tryz.prog) 70 _ rfl bB (j * 21) rfl (entE en).toList _ rgB Tryz.underlying70 rfl size_entry ?_
    refine hK _ _ ?_
    clear hK K
    try simp only [Act.put, LT1, LT2, LT3]
    refine Gl.wpAny_only (i := 3) (by kernel_rfl) rfl rfl (fun K hK => ?_)
    refine wp_load_mid (P := Tryz.prog) 70 _ rfl bA (j * 21) rfl (entE en).toList _ rgA Tryz.underlying70 rfl size_entry ?_
    refine hK _ _ ?_
    clear hK K
    try simp only [Act.put, LT1, LT2, LT3]
    refine Gl.wpAny_only (i := 8) (by kernel_rfl) rfl rfl (fun K hK => ?_)
    refine wp_neq_self 70 _ _ _ rfl (entE en) rfl rfl (run_eqGuard_agg _ _ _ _ _ _ _ (by kernel_rfl)) (neq_entry en _) ?_
    refine hK _ _ ?_
    clear hK K
    try simp only [Act.put, LT1, LT2, LT3]
    refine wpAny_done (by kernel_rfl) ?_ _
    go_wp2
    go_round
    case rel => exact ⟨j + 1, by omega, by go_num, hide (below_next HB.out (Below.refl _ _).drew)⟩
    case measure => simp [intOf]; omega
  ·
   have t2 : ¬ ((j : Int) < L) := by omega
   go_wp2
   go_ret
   exact ⟨rfl, HB.out⟩
end Go.Proofs.YtklibmijiecbfaaGreat
