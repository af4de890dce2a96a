/- The walk of glob.parse. -/
import Derived.Test.YtklibmijiecbfaaGreatK4
import Derived.Test.YtklibmijiecbfaaGreatK3
import Derived.Lib.ParseIntB
import Derived.Lib.Split
import Derived.Lib.TrimByte
import Derived.Deep.RegionLaw
import Derived.Lib.QuietBelow
namespace Go.Proofs.YtklibmijiecbfaaGreat.Gl
open Go.RowKit
attribute [local go_sem] LA_size

def partsR : Nat → ByteArray → Nat → Option (List Part)
 | 0, _, _ => none
 | k + 1, s, a => if a < s.size then (match firstR (s.extract a s.size) with
  | none => none
  | some (f, m, n) => (partsR k s (a + n)).map ((f, m) :: ·)) else some []

theorem classFin_pos {nb : Bool} {B size n : Nat} {f : Nat → Bool} {x : Option (Nat × (Nat → Bool))} (h : classFin nb B size x = some (f, n)) : 1 ≤ n := by
 cases x with
 | none => simp [classFin] at h
 | some y =>
  obtain ⟨a, g⟩ := y
  simp only [classFin] at h
  split at h
  ·
   simp at h
  ·
   simp only [Option.some.injEq, Prod.mk.injEq] at h; omega
theorem scan_le : ∀ (k : Nat) (s : ByteArray) (a : Nat) (f : Nat → Bool) (b : Nat) (g : Nat → Bool), a ≤ s.size → scan k s a f = some (b, g) → b ≤ s.size
 | 0, _, _, _, _, _, _, h => by simp [scan] at h
 | k + 1, s, a, f, b, g, ha, h => by
  rw [scan] at h
  split at h
  ·
   rename_i hc
   split at h
   ·
    simp at h
   ·
    exact scan_le k s _ _ b g (memberAt_le s a hc.1).1 h
  ·
   simp only [Option.some.injEq, Prod.mk.injEq] at h; omega
theorem firstR_bound {s : ByteArray} (hs : 1 ≤ s.size) {f : Nat → Bool} {m : Bool} {n : Nat} (h : firstR s = some (f, m, n)) : 1 ≤ n ∧ n ≤ s.size := by
 unfold firstR at h
 split at h
 ·
  rename_i hst
  simp only [starsB, Bool.and_eq_true, decide_eq_true_eq] at hst
  simp only [Option.some.injEq, Prod.mk.injEq] at h; omega
 ·
  split at h
  ·
   simp only [Option.some.injEq, Prod.mk.injEq] at h; omega
  ·
   split at h
   ·
    simp only [Option.some.injEq, Prod.mk.injEq] at h; omega
   ·
    split at h
    ·
     unfold classP at h
     cases hc : classR s with
     | none => simp [hc] at h
     | some x =>
      obtain ⟨g, k⟩ := x
      simp only [hc, Option.map_some, Option.some.injEq, Prod.mk.injEq] at h
      obtain ⟨rfl, rfl, rfl⟩ := h
      unfold classR at hc
      refine ⟨classFin_pos hc, ?_⟩
      cases hsc : scan (s.size + 1) s (classBegin s) fun _ => false with
      | none => simp [hsc, classFin] at hc
      | some y =>
       obtain ⟨b, g'⟩ := y
       have hb : classBegin s ≤ s.size := by
        unfold classBegin notB
        split
        ·
         rename_i hh; simp at hh; omega
        ·
         omega
       have := scan_le _ _ _ _ _ _ hb hsc
       simp only [hsc, classFin] at hc
       split at hc
       ·
        simp at hc
       ·
        simp only [Option.some.injEq, Prod.mk.injEq] at hc; omega
    ·
     split at h
     ·
      unfold escR at h
      split at h
      ·
       simp only [Option.some.injEq, Prod.mk.injEq] at h; omega
      ·
       simp at h
     ·
      split at h
      ·
       simp only [Option.some.injEq, Prod.mk.injEq] at h; omega
      ·
       simp at h

def parseR (p : ByteArray) : Nat ⊕ List Part := if 24 < p.size then .inl 2 else if p.size = 0 then .inl 4 else match partsR (p.size + 1) p 0 with
 | none => .inl 4
 | some ps => .inr ps

def Parsed (w : World) (r : Nat ⊕ List Part) (e : Ending) (w' : World) : Prop := Below w.heap.size w w' ∧ match r with
 | .inl n => e = .returned (.tuple #[.slice none 0 0, .iface 82 (.int .i64 n)])
 | .inr ps => ∃ sv, e = .returned (.tuple #[sv, .nilIface]) ∧ w'.ownsRow w.heap.size 224 257 sv ps.length (flat ps)

set_option maxRecDepth 10000 in
set_option maxHeartbeats 1000000 in
theorem parse_any (p : ByteArray) (hz : p.size ≤ 1000) (w : World) : Calls Tryz.prog 121 #[.string p] w (Parsed w (parseR p)) := by
 by_cases h24 : 24 < p.size
 ·
  have hR : parseR p = .inl 2 := by unfold parseR; rw [if_pos h24]
  rw [hR]
  go_enter Tryz.func121, Tryz.ntmps121
  go_wp2
  go_ret2
  exact ⟨Below.refl _ _, rfl⟩
 ·
  by_cases h0 : p.size = 0
  ·
   have hR : parseR p = .inl 4 := by unfold parseR; rw [if_neg h24, if_pos h0]
   rw [hR]
   have b0 : ((p.size : Int) == 0) = true := by rw [beq_iff_eq]; omega
   have H0 := hide h0
   clear h0
   go_enter Tryz.func121, Tryz.ntmps121
   go_wp2
   go_ret2
   exact ⟨Below.refl _ _, rfl⟩
  ·
   have hR : ∀ r, partsR (p.size + 1) p 0 = r → parseR p = (match r with | none => .inl 4 | some ps => .inr ps) := by intro r hr; unfold parseR; rw [if_neg h24, if_neg h0, hr]
   have b0 : ((p.size : Int) == 0) = false := by rw [beq_eq_false_iff_ne]; omega
   have HR := hide hR
   clear hR h0
   go_enter Tryz.func121, Tryz.ntmps121
   go_wp2_with fail
   go_loopw [4, 5] (fun l at' wr => ∃ (a : Nat) (ps : List Part) (fuel : Nat), a ≤ p.size ∧ ps.length ≤ a ∧ at' = .int .i64 a ∧ p.size - a < fuel ∧ partsR (p.size + 1) p 0 = (partsR fuel p a).map (ps ++ ·) ∧ wr.ownsRow w.heap.size 224 257 l ps.length (flat ps) ∧ Below w.heap.size w wr) (fun _ at' _ => p.size - (intOf at').toNat)
   case atStart => exact ⟨0, [], p.size + 1, by omega, by simp, rfl, by omega, by simp, World.ownsRow_nil _ _ _ _, Below.refl _ _⟩
   case round =>
    obtain ⟨a, ps, fuel, ha, hps, rfl, hfuel, hpr, hown, hB⟩ := hrel
    obtain ⟨fu, rfl⟩ : ∃ fu, fuel = fu + 1 := ⟨fuel - 1, by omega⟩
    have Hpr := hide hpr
    have Hown := hide hown
    clear hpr hown
    by_cases hlt : a < p.size
    ·
     cases hF : firstR (p.extract a p.size) with
     | none =>
      have hnone : parseR p = .inl 4 := HR.out none (by rw [Hpr.out, partsR, if_pos hlt, hF]; rfl)
      have HV := hide (show partV (firstR (p.extract a p.size)) = .tuple #[.agg (LA 257 fun _ => false), .int .i64 0] by rw [hF]; rfl)
      have HN := hide hnone
      have zp := zv_part
      clear hF hnone HR Hpr
      go_wp2_with (first
       | (go_at_call 130; refine (first_any _ (by rw [size_extract]; omega) (by rw [size_extract]; omega) _).mono ?_; rintro e W ⟨rfl, hW⟩; rw [HV.out])
       | (refine wpList_store_LA 224 257 rfl _ _ rfl W.heap.size ?_ (fun _ => false) ?_ size_part (fun _ => false) 224 ?_ ?_; (· rfl); (· rfl); (· with_reducible exact heap_alloc_new _ _)))
      go_ret2
      rw [HN.out]
      exact ⟨below_setRow ((hB.trans (hW.mono hB.size)).alloc (Nat.le_trans hB.size hW.size) _) (Nat.le_trans hB.size hW.size) _, rfl⟩
     | some x =>
      obtain ⟨f, m, n⟩ := x
      have hbd := firstR_bound (by rw [size_extract]; omega) hF
      rw [size_extract] at hbd
      have hnext : partsR (p.size + 1) p 0 = (partsR fu p (a + n)).map ((ps ++ [(f, m)]) ++ ·) := by
       rw [Hpr.out, partsR, if_pos hlt, hF]
       show Option.map _ (Option.map _ (partsR fu p (a + n))) = _
       generalize partsR fu p (a + n) = r
       cases r <;> simp
      have HX := hide hnext
      have HV := hide (show partV (firstR (p.extract a p.size)) = .tuple #[.agg (LA 257 (PF f m)), .int .i64 n] by rw [hF]; rfl)
      have zp := zv_part
      have n0 : ((n : Int) == 0) = false := by rw [beq_eq_false_iff_ne]; omega
      clear hF hnext HR Hpr
      go_wp2_with (first
       | (go_at_call 130; refine (first_any _ (by rw [size_extract]; omega) (by rw [size_extract]; omega) _).mono ?_; rintro e W ⟨rfl, hW⟩; rw [HV.out])
       | (refine wpList_store_LA 224 257 rfl _ _ rfl W.heap.size ?_ (PF f m) ?_ size_part (fun _ => false) 224 ?_ ?_; (· rfl); (· rfl); (· with_reducible exact heap_alloc_new _ _); refine wpList_forget (fun V => Below W.heap.size W V ∧ V.heap[W.heap.size]? = some (.cells (LA 257 (PF f m)) 224 (0, 0))) ⟨below_setRow ((Below.refl _ _).alloc (Nat.le_refl _) _) (Nat.le_refl _) _, heap_setRow_same _ (heap_alloc_new _ _)⟩ ?_; rintro V ⟨hV, hVp⟩)
       | (refine wpList_load_part rfl _ rfl W.heap.size ?_ (PF f m) ?_ ?_; (· rfl); (· exact hVp))
       | (refine wpList_buildSlice_part rfl _ rfl (PF f m) ?_ ?_; (· rfl))
       | (refine wpList_append_part rfl _ _ rfl w.heap.size u4 ps ?_ ?_ V.heap.size ?_ (f, m) ?_ (by omega) ?_ ?_; (· rfl); (· exact owns_later Hown.out ((hW.trans (hV.mono hW.size)).alloc (Nat.le_trans hW.size hV.size) _)); (· rfl); (· exact heap_alloc_new _ _); (· exact Nat.le_trans hB.size (Nat.le_trans hW.size (Nat.le_trans hV.size (by simp)))); intro v' w2 ho2 hg2))
      go_roundw
      case rel =>
       have hsz : w.heap.size ≤ (V.alloc (Obj.cells (LA 257 (PF f m)) 224)).heap.size := Nat.le_trans hB.size (Nat.le_trans hW.size (Nat.le_trans hV.size (by simp)))
       have hB2 : Below w.heap.size w (V.alloc (Obj.cells (LA 257 (PF f m)) 224)) := ((hB.trans (hW.mono hB.size)).trans (hV.mono (Nat.le_trans hB.size hW.size))).alloc (Nat.le_trans hB.size (Nat.le_trans hW.size hV.size)) _
       exact ⟨a + n, ps ++ [(f, m)], fu, by omega, by simp; omega, by go_num, by omega, HX.out, by simpa using ho2, hB2.grown hg2 hsz fun k hk => (Hown.out.lt k hk).1⟩
      case measure => simp [intOf]; omega
    ·
     have hend : partsR (p.size + 1) p 0 = some ps := by rw [Hpr.out, partsR, if_neg hlt]; simp
     have HN := hide (HR.out _ hend)
     have hown := Hown.out
     clear hend HR Hpr Hown
     have HO := hide hown
     clear hown
     go_wp2_with fail
     go_ret2
     rw [HN.out]
     exact ⟨hB, _, rfl, HO.out⟩
end Go.Proofs.YtklibmijiecbfaaGreat.Gl

/- Policies: what they are, their words and lines, what is wrong with them; how texts are cut and joined. -/
namespace Go.Proofs.YtklibmijiecbfaaGreat

abbrev W8 := List UInt8

structure ACT where
 kind : Int
 errno : Int
structure NT where
 ip : Nat
 bits : Int
 lo : Int
 hi : Int
structure CD where
 arg : Int
 op : Int
 v : Nat
 m : Nat
 glob : ByteArray
 net : NT
structure RL where
 nr : Int
 conds : List CD
 act : ACT
structure POL where
 rules : List RL
 els : ACT

def actF (a : ACT) : Nat := if a.kind ≠ 1 ∧ a.kind ≠ 2 ∧ a.kind ≠ 3 then 3 else if a.kind ≠ 2 ∧ a.errno ≠ 0 then 3 else if a.kind = 2 ∧ (a.errno < 1 ∨ 255 < a.errno) then 1 else 0
def kindTab : List (List Nat) := [[1, 1, 0, 0], [1, 1, 0, 0], [2, 1, 1, 0], [1, 0, 0, 0], [2, 0, 0, 0], [2, 2, 0, 0], [1, 3, 0, 0], [2, 2, 1, 0], [1, 1, 3, 1]]
def kindAt (nr arg : Nat) : Nat := (kindTab.getD nr []).getD arg 0
def kindOp (op : Int) : Nat := if op = 8 then 2 else if op = 9 then 3 else 1
def netZ (n : NT) : Prop := n.ip = 0 ∧ n.bits = 0 ∧ n.lo = 0 ∧ n.hi = 0
instance (n : NT) : Decidable (netZ n) := by unfold netZ; infer_instance
def unusedP (c : CD) : Prop := (c.m ≠ 0 ∧ c.op ≠ 7) ∨ (c.v ≠ 0 ∧ (c.op = 8 ∨ c.op = 9)) ∨ (c.glob.size ≠ 0 ∧ c.op ≠ 8) ∨ (¬ netZ c.net ∧ c.op ≠ 9)
instance (c : CD) : Decidable (unusedP c) := by unfold unusedP; infer_instance
def globF (p : ByteArray) : Nat := match Gl.parseR p with
 | .inl n => n
 | .inr _ => 0
def netF (n : NT) : Nat := faultOf n.ip n.bits n.lo n.hi
def condF (nr : Nat) (c : CD) : Nat :=
 if c.arg < 0 ∨ 3 < c.arg ∨ c.op < 1 ∨ 9 < c.op then 1
 else if kindAt nr c.arg.toNat ≠ kindOp c.op ∨ unusedP c then 3
 else if c.op = 8 then globF c.glob else if c.op = 9 then netF c.net else 0
def firstF : List Nat → Nat
 | [] => 0
 | x :: r => if x = 0 then firstF r else x
def ruleF (r : RL) : Nat :=
 if r.nr < 0 ∨ 8 < r.nr then 1 else if 4 < r.conds.length then 2
 else if firstF (r.conds.map (condF r.nr.toNat)) = 0 then actF r.act else firstF (r.conds.map (condF r.nr.toNat))
def polF (p : POL) : Nat := if 12 < p.rules.length then 2 else if actF p.els = 0 then firstF (p.rules.map ruleF) else actF p.els

theorem firstF_zero : ∀ {l : List Nat}, firstF l = 0 ↔ ∀ x ∈ l, x = 0
 | [] => by simp [firstF]
 | x :: r => by
  by_cases h : x = 0
  ·
   simp [firstF, h, firstF_zero (l := r)]
  ·
   simp [firstF, h]

/-! Words. -/
def nameW : List W8 := [[114, 101, 97, 100], [119, 114, 105, 116, 101], [111, 112, 101, 110], [99, 108, 111, 115, 101], [115, 116, 97, 116], [114, 101, 110, 97, 109, 101], [99, 111, 110, 110, 101, 99, 116], [108, 105, 110, 107], [115, 101, 110, 100]]
def nameOf (nr : Int) : W8 := nameW.getD nr.toNat []
end Go.Proofs.YtklibmijiecbfaaGreat

/- Policies read: as the code reads (loosely), as the document reads; what is written is read, what is read was written. -/
namespace Go.Proofs.YtklibmijiecbfaaGreat

/-! The code's reading: what is read, and the words that are left. -/
def noNet : NT := ⟨0, 0, 0, 0⟩
/-! The document's. -/
end Go.Proofs.YtklibmijiecbfaaGreat

/- The bytes of a pattern: from 33 to 126, none is a quote. -/
namespace Go.Proofs.YtklibmijiecbfaaGreat.Gl
open Go.RowKit

def printB (n : Nat) : Prop := 33 ≤ n ∧ n ≤ 126 ∧ n ≠ 34
theorem name_print {n : Nat} (h : nameB n = true) : printB n := by
 simp [nameB] at h
 unfold printB
 omega
theorem sign_print {n : Nat} (h : signB n = true) : printB n := by
 simp [signB] at h
 unfold printB
 omega
theorem plain_print {n : Nat} (h : plainB n = true) : printB n := by
 simp [plainB] at h
 unfold printB
 omega
theorem member_print (s : ByteArray) (a : Nat) (ha : a < s.size) (h : memberAt s a ≠ 0) : ∀ i, a ≤ i → i < a + memberAt s a → printB (byteAt s i) := by
 intro i h1 h2
 unfold memberAt memberN at h h2
 by_cases n0 : nameB (byteAt s a) = true
 ·
  have p0 := name_print n0
  rw [if_pos n0] at h h2
  by_cases h3 : s.size - a < 2
  ·
   rw [if_pos h3] at h2
   obtain rfl : i = a := by omega
   exact p0
  ·
   rw [if_neg h3] at h h2
   by_cases h4 : byteAt s (a + 1) = 45
   ·
    rw [if_pos h4] at h h2
    by_cases h5 : s.size - a < 3
    ·
     rw [if_pos h5] at h; exact absurd rfl h
    ·
     rw [if_neg h5] at h h2
     by_cases h6 : nameB (byteAt s (a + 2)) = true
     ·
      rw [if_pos h6] at h h2
      by_cases h7 : byteAt s (a + 2) < byteAt s a
      ·
       rw [if_pos h7] at h; exact absurd rfl h
      ·
       rw [if_neg h7] at h2
       have p2 := name_print h6
       rcases (by omega : i = a ∨ i = a + 1 ∨ i = a + 2) with rfl | rfl | rfl
       ·
        exact p0
       ·
        rw [h4]; unfold printB; omega
       ·
        exact p2
     ·
      rw [if_neg h6] at h; exact absurd rfl h
   ·
    rw [if_neg h4] at h2
    obtain rfl : i = a := by omega
    exact p0
 ·
  rw [if_neg n0] at h; exact absurd rfl h
theorem scan_print : ∀ (k : Nat) (s : ByteArray) (a : Nat) (f : Nat → Bool) (b : Nat) (g : Nat → Bool), scan k s a f = some (b, g) → (∀ i, a ≤ i → i < b → printB (byteAt s i)) ∧ (b < s.size → byteAt s b = 93)
 | 0, _, _, _, _, _, h => by simp [scan] at h
 | k + 1, s, a, f, b, g, h => by
  rw [scan] at h
  split at h
  ·
   rename_i hc
   split at h
   ·
    simp at h
   ·
    rename_i hm
    have ih := scan_print k s _ _ b g h
    refine ⟨fun i h1 h2 => ?_, ih.2⟩
    by_cases hi : i < a + memberAt s a
    ·
     exact member_print s a hc.1 hm i h1 hi
    ·
     exact ih.1 i (by omega) h2
  ·
   rename_i hc
   simp only [Option.some.injEq, Prod.mk.injEq] at h
   obtain ⟨rfl, _⟩ := h
   refine ⟨fun i h1 h2 => by omega, fun hb => ?_⟩
   exact Classical.byContradiction fun hn => hc ⟨hb, hn⟩
theorem first_print {s : ByteArray} {f : Nat → Bool} {m : Bool} {n : Nat} (h : firstR s = some (f, m, n)) : ∀ i, i < n → printB (byteAt s i) := by
 unfold firstR at h
 split at h
 ·
  rename_i hst
  simp only [starsB, Bool.and_eq_true, decide_eq_true_eq, beq_iff_eq] at hst
  simp only [Option.some.injEq, Prod.mk.injEq] at h
  intro i hi
  rcases (by omega : i = 0 ∨ i = 1) with rfl | rfl
  ·
   rw [hst.1.2]; unfold printB; omega
  ·
   rw [hst.2]; unfold printB; omega
 ·
  split at h
  ·
   rename_i h0
   simp only [Option.some.injEq, Prod.mk.injEq] at h
   intro i hi
   obtain rfl : i = 0 := by omega
   rw [h0]; unfold printB; omega
  ·
   split at h
   ·
    rename_i h0
    simp only [Option.some.injEq, Prod.mk.injEq] at h
    intro i hi
    obtain rfl : i = 0 := by omega
    rw [h0]; unfold printB; omega
   ·
    split at h
    ·
     rename_i h0
     unfold classP at h
     cases hc : classR s with
     | none => simp [hc] at h
     | some x =>
      obtain ⟨g, k⟩ := x
      simp only [hc, Option.map_some, Option.some.injEq, Prod.mk.injEq] at h
      obtain ⟨rfl, rfl, rfl⟩ := h
      unfold classR at hc
      cases hsc : scan (s.size + 1) s (classBegin s) fun _ => false with
      | none => simp [hsc, classFin] at hc
      | some y =>
       obtain ⟨b, g'⟩ := y
       have hp := scan_print _ _ _ _ _ _ hsc
       simp only [hsc, classFin] at hc
       split at hc
       ·
        simp at hc
       ·
        rename_i hb
        simp only [Option.some.injEq, Prod.mk.injEq] at hc
        have hcb : classBegin s ≤ s.size ∧ (classBegin s = 1 ∨ classBegin s = 2 ∧ byteAt s 1 = 33) := by
         unfold classBegin
         split
         ·
          rename_i hn
          simp only [notB, Bool.and_eq_true, decide_eq_true_eq, beq_iff_eq] at hn
          exact ⟨by omega, .inr ⟨rfl, hn.2⟩⟩
         ·
          refine ⟨?_, .inl rfl⟩
          by_cases hs : s.size = 0
          ·
           have : byteAt s 0 = 0 := by unfold byteAt; rw [Lib.size_eq] at hs; rw [List.length_eq_zero_iff.1 hs]; rfl
           omega
          ·
           omega
        have hle := scan_le _ _ _ _ _ _ hcb.1 hsc
        have h93 := hp.2 (by omega)
        intro i hi
        by_cases h1 : i < classBegin s
        ·
         rcases (by omega : i = 0 ∨ i = 1 ∧ byteAt s 1 = 33) with rfl | ⟨rfl, h33⟩
         ·
          rw [h0]; unfold printB; omega
         ·
          rw [h33]; unfold printB; omega
        ·
         by_cases h2 : i < b
         ·
          exact hp.1 i (by omega) h2
         ·
          obtain rfl : i = b := by omega
          rw [h93]; unfold printB; omega
    ·
     split at h
     ·
      rename_i h0
      unfold escR at h
      split at h
      ·
       rename_i he
       simp only [Option.some.injEq, Prod.mk.injEq] at h
       intro i hi
       rcases (by omega : i = 0 ∨ i = 1) with rfl | rfl
       ·
        rw [h0]; unfold printB; omega
       ·
        exact sign_print he.2
      ·
       simp at h
     ·
      split at h
      ·
       rename_i h0
       simp only [Option.some.injEq, Prod.mk.injEq] at h
       intro i hi
       obtain rfl : i = 0 := by omega
       exact plain_print h0
      ·
       simp at h
theorem parts_print : ∀ (k : Nat) (s : ByteArray) (a : Nat) (ps : List Part), a ≤ s.size → partsR k s a = some ps → ∀ i, a ≤ i → i < s.size → printB (byteAt s i)
 | 0, _, _, _, _, h => by simp [partsR] at h
 | k + 1, s, a, ps, ha, h => by
  rw [partsR] at h
  split at h
  ·
   rename_i hlt
   split at h
   ·
    simp at h
   ·
    rename_i f m n hf
    have hb := firstR_bound (by rw [size_extract]; omega) hf
    rw [size_extract] at hb
    cases hr : partsR k s (a + n) with
    | none => simp [hr] at h
    | some qs =>
     intro i h1 h2
     by_cases hi : i < a + n
     ·
      have := first_print hf (i - a) (by omega)
      rwa [byteAt_extract s a (i - a) ha, show a + (i - a) = i by omega] at this
     ·
      exact parts_print k s (a + n) qs (by omega) hr i (by omega) h2
  ·
   intro i h1 h2; omega
theorem parse_print {p : ByteArray} {ps : List Part} (h : parseR p = .inr ps) : ∀ b ∈ p.data.toList, printB b.toNat := by
 unfold parseR at h
 split at h
 ·
  cases h
 ·
  split at h
  ·
   cases h
  ·
   split at h
   ·
    cases h
   ·
    rename_i qs hq
    intro b hb
    obtain ⟨i, hi, rfl⟩ := List.mem_iff_getElem.1 hb
    have := parts_print _ p 0 qs (Nat.zero_le _) hq i (Nat.zero_le _) (by rw [Lib.size_eq]; exact hi)
    unfold byteAt at this
    rwa [List.getD_eq_getElem?_getD, List.getElem?_eq_getElem hi, Option.getD_some] at this
theorem parse_size {p : ByteArray} {ps : List Part} (h : parseR p = .inr ps) : p.size ≤ 24 ∧ p.size ≠ 0 := by
 unfold parseR at h
 split at h
 ·
  cases h
 ·
  split at h
  ·
   cases h
  ·
   omega
end Go.Proofs.YtklibmijiecbfaaGreat.Gl

/- What is written is read; what is read was written. -/
namespace Go.Proofs.YtklibmijiecbfaaGreat

def I64 (n : Int) : Prop := -9223372036854775808 ≤ n ∧ n ≤ 9223372036854775807
theorem i64_nat {k : Nat} (h : k ≤ 4294967296) : I64 (k : Int) := by unfold I64; omega
structure AcOk (a : ACT) : Prop where
 kind : I64 a.kind
 errno : I64 a.errno
structure NtOk (n : NT) : Prop where
 ip : n.ip < 4294967296
 bits : I64 n.bits
 lo : I64 n.lo
 hi : I64 n.hi
structure CdOk (c : CD) : Prop where
 arg : I64 c.arg
 op : I64 c.op
 v : c.v < 18446744073709551616
 m : c.m < 18446744073709551616
 net : NtOk c.net
structure RlOk (r : RL) : Prop where
 nr : I64 r.nr
 conds : ∀ c ∈ r.conds, CdOk c
 act : AcOk r.act
structure PlOk (p : POL) : Prop where
 rules : ∀ r ∈ p.rules, RlOk r
 els : AcOk p.els

theorem act_cases {a : ACT} (h : actF a = 0) : a = ⟨1, 0⟩ ∨ a = ⟨3, 0⟩ ∨ ∃ n : Nat, 1 ≤ n ∧ n ≤ 255 ∧ a = ⟨2, n⟩ := by
 obtain ⟨k, e⟩ := a
 unfold actF at h
 simp only at h
 split at h
 ·
  cases h
 ·
  split at h
  ·
   cases h
  ·
   split at h
   ·
    cases h
   ·
    rename_i h1 h2 h3
    rcases (by omega : k = 1 ∨ k = 3 ∨ k = 2) with rfl | rfl | rfl
    ·
     left; congr; omega
    ·
     right; left; congr; omega
    ·
     right; right
     exact ⟨e.toNat, by omega, by omega, by congr; omega⟩
inductive Shape : CD → Prop
 | num (a k v : Nat) (ha : a ≤ 3) (h1 : 1 ≤ k) (h6 : k ≤ 6) (hv : v < 18446744073709551616) : Shape ⟨a, k, v, 0, ByteArray.empty, noNet⟩
 | mask (a v m : Nat) (ha : a ≤ 3) (hv : v < 18446744073709551616) (hm : m < 18446744073709551616) : Shape ⟨a, 7, v, m, ByteArray.empty, noNet⟩
 | like (a : Nat) (g : ByteArray) (ha : a ≤ 3) (hg : globF g = 0) : Shape ⟨a, 8, 0, 0, g, noNet⟩
 | net (a ip b lo hi : Nat) (ha : a ≤ 3) (hip : ip < 4294967296) (hf : faultOf ip b lo hi = 0) : Shape ⟨a, 9, 0, 0, ByteArray.empty, ⟨ip, b, lo, hi⟩⟩
theorem empty_of {g : ByteArray} (h : g.size = 0) : g = ByteArray.empty := ByteArray.size_eq_zero_iff.1 h
theorem cond_shape {nr : Nat} {c : CD} (h : condF nr c = 0) (hc : CdOk c) : Shape c := by
 obtain ⟨arg, op, v, m, g, ⟨ip, b, lo, hi⟩⟩ := c
 obtain ⟨_, _, hv, hm, ⟨hip, _, _, _⟩⟩ := hc
 unfold condF at h
 simp only at h hv hm hip
 split at h
 ·
  cases h
 ·
  rename_i h0
  split at h
  ·
   cases h
  ·
   rename_i h1
   rw [not_or] at h1
   have hu := h1.2
   unfold unusedP netZ at hu
   simp only [not_or, not_and, Classical.not_not] at hu
   obtain ⟨u1, u2, u3, u4⟩ := hu
   obtain ⟨a, rfl⟩ : ∃ a : Nat, arg = a := ⟨arg.toNat, by omega⟩
   obtain ⟨k, rfl⟩ : ∃ k : Nat, op = k := ⟨op.toNat, by omega⟩
   have ha : a ≤ 3 := by omega
   by_cases k8 : k = 8
   ·
    subst k8
    rw [if_pos (by omega)] at h
    obtain rfl : m = 0 := Classical.byContradiction fun e => by have := u1 e; omega
    obtain rfl : v = 0 := Classical.byContradiction fun e => by have := u2 e; omega
    obtain ⟨rfl, rfl, rfl, rfl⟩ : ip = 0 ∧ b = 0 ∧ lo = 0 ∧ hi = 0 := Classical.byContradiction fun e => by have := u4 (by simpa using e); omega
    exact Shape.like a g ha h
   ·
    have eg := empty_of (Classical.byContradiction fun e => k8 (by have := u3 e; omega))
    subst eg
    by_cases k9 : k = 9
    ·
     subst k9
     rw [if_neg (by omega), if_pos (by omega)] at h
     obtain rfl : m = 0 := Classical.byContradiction fun e => by have := u1 e; omega
     obtain rfl : v = 0 := Classical.byContradiction fun e => by have := u2 e; omega
     have hf := fault_ok (show faultOf ip b lo hi = 0 from h)
     obtain ⟨b, rfl⟩ : ∃ k : Nat, b = k := ⟨b.toNat, by omega⟩
     obtain ⟨lo, rfl⟩ : ∃ k : Nat, lo = k := ⟨lo.toNat, by omega⟩
     obtain ⟨hi, rfl⟩ : ∃ k : Nat, hi = k := ⟨hi.toNat, by omega⟩
     exact Shape.net a ip b lo hi ha hip h
    ·
     obtain ⟨rfl, rfl, rfl, rfl⟩ : ip = 0 ∧ b = 0 ∧ lo = 0 ∧ hi = 0 := Classical.byContradiction fun e => by have := u4 (by simpa using e); omega
     by_cases k7 : k = 7
     ·
      subst k7
      exact Shape.mask a v m ha hv hm
     ·
      obtain rfl : m = 0 := Classical.byContradiction fun e => by have := u1 e; omega
      exact Shape.num a k v ha (by omega) (by omega) hv

theorem nine {k : Nat} (h : k ≤ 8) : k = 0 ∨ k = 1 ∨ k = 2 ∨ k = 3 ∨ k = 4 ∨ k = 5 ∨ k = 6 ∨ k = 7 ∨ k = 8 := by omega
theorem glob_print {g : ByteArray} (h : globF g = 0) : (∀ b ∈ g.data.toList, Gl.printB b.toNat) ∧ g.size ≤ 24 := by
 unfold globF at h
 cases hp : Gl.parseR g with
 | inl n =>
  rw [hp] at h
  simp only at h
  unfold Gl.parseR at hp
  repeat' split at hp
  all_goals simp at hp
  all_goals omega
 | inr ps => exact ⟨Gl.parse_print hp, (Gl.parse_size hp).1⟩
end Go.Proofs.YtklibmijiecbfaaGreat

/- .. of whole policies. -/
namespace Go.Proofs.YtklibmijiecbfaaGreat

def ShapeAll (cs : List CD) : Prop := ∀ c ∈ cs, Shape c
structure RuleOk (r : RL) : Prop where
 nr0 : 0 ≤ r.nr
 nr8 : r.nr ≤ 8
 few : r.conds.length ≤ 4
 conds : ShapeAll r.conds
 act : actF r.act = 0
theorem rule_ok {r : RL} (h : ruleF r = 0) (hr : RlOk r) : RuleOk r := by
 unfold ruleF at h
 split at h
 ·
  cases h
 ·
  split at h
  ·
   cases h
  ·
   split at h
   ·
    rename_i h0 h1 h2
    refine ⟨by omega, by omega, by omega, fun c hc => ?_, h⟩
    exact cond_shape ((firstF_zero.1 h2) _ (List.mem_map.2 ⟨c, hc, rfl⟩)) (hr.conds c hc)
   ·
    rename_i h3
    exact absurd h h3
structure PolOk (p : POL) : Prop where
 few : p.rules.length ≤ 12
 rules : ∀ r ∈ p.rules, RuleOk r
 els : actF p.els = 0
theorem pol_ok {p : POL} (h : polF p = 0) (hp : PlOk p) : PolOk p := by
 unfold polF at h
 split at h
 ·
  cases h
 ·
  split at h
  ·
   rename_i h0 h1
   exact ⟨by omega, fun r hr => rule_ok ((firstF_zero.1 h) _ (List.mem_map.2 ⟨r, hr, rfl⟩)) (hp.rules r hr), h1⟩
  ·
   rename_i h2
   exact absurd h h2

end Go.Proofs.YtklibmijiecbfaaGreat

/- Policies as values and cells. -/
namespace Go.Proofs.YtklibmijiecbfaaGreat
open Go.RowKit

theorem box_below (w : World) (o : Obj) : Below w.heap.size w (w.alloc o) := (Below.refl _ _).alloc (Nat.le_refl _) _
theorem below_next {w w1 w2 : World} (a : Below w.heap.size w w1) (b : Below w1.heap.size w1 w2) : Below w.heap.size w w2 := a.trans (b.mono a.size)
theorem errV_zero : errV 0 = .nilIface := rfl
theorem errV_pos {f : Nat} (h : f ≠ 0) : errV f = .iface 82 (.int .i64 f) := if_neg h

def actV (a : ACT) : Value := .agg #[.int .i64 a.kind, .int .i64 a.errno]
def condV (c : CD) : Value := .agg #[.int .i64 c.arg, .int .i64 c.op, .int .u64 c.v, .int .u64 c.m, .string c.glob, .int .u32 c.net.ip, .int .i64 c.net.bits, .int .i64 c.net.lo, .int .i64 c.net.hi]
def ruleV (r : RL) (oa : Option Addr) (cap : Nat) : Value := .agg #[.int .i64 r.nr, .slice oa r.conds.length cap, .int .i64 r.act.kind, .int .i64 r.act.errno]
def polV (p : POL) (oa : Option Addr) (cap : Nat) : Value := .agg #[.slice oa p.rules.length cap, .int .i64 p.els.kind, .int .i64 p.els.errno]

structure CondAt (W : World) (b o : Nat) (c : CD) : Prop where
 k0 : W.cell? ⟨b, o, none⟩ = some (.int .i64 c.arg)
 k1 : W.cell? ⟨b, o + 1, none⟩ = some (.int .i64 c.op)
 k2 : W.cell? ⟨b, o + 2, none⟩ = some (.int .u64 c.v)
 k3 : W.cell? ⟨b, o + 3, none⟩ = some (.int .u64 c.m)
 k4 : W.cell? ⟨b, o + 4, none⟩ = some (.string c.glob)
 k5 : W.cell? ⟨b, o + 5, none⟩ = some (.int .u32 c.net.ip)
 k6 : W.cell? ⟨b, o + 6, none⟩ = some (.int .i64 c.net.bits)
 k7 : W.cell? ⟨b, o + 7, none⟩ = some (.int .i64 c.net.lo)
 k8 : W.cell? ⟨b, o + 8, none⟩ = some (.int .i64 c.net.hi)
 ok : CdOk c
theorem CondAt.on {W V : World} {b o : Nat} {x : CD} (h : CondAt W b o x) (hc : ∀ j, V.cell? ⟨b, j, none⟩ = W.cell? ⟨b, j, none⟩) : CondAt V b o x :=
 ⟨(hc _).trans h.k0, (hc _).trans h.k1, (hc _).trans h.k2, (hc _).trans h.k3, (hc _).trans h.k4, (hc _).trans h.k5, (hc _).trans h.k6, (hc _).trans h.k7, (hc _).trans h.k8, h.ok⟩
structure IsConds (oa : Option Addr) (cs : List CD) (W : World) : Prop where
 lie : 0 < cs.length → ∃ b off, oa = some ⟨b, off, none⟩ ∧ b < W.heap.size ∧ ∀ i c, cs[i]? = some c → CondAt W b (off + i * 9) c
theorem IsConds.on {oa : Option Addr} {cs : List CD} {W V : World} (h : IsConds oa cs W) (hb : Below W.heap.size W V) : IsConds oa cs V :=
 ⟨fun h0 => by
  obtain ⟨b, off, h1, h2, h3⟩ := h.lie h0
  exact ⟨b, off, h1, Nat.lt_of_lt_of_le h2 hb.size, fun i c hi => (h3 i c hi).on fun j => (bcell hb).1 b j h2⟩⟩
theorem IsConds.nil (oa : Option Addr) (W : World) : IsConds oa [] W := ⟨fun h => absurd h (Nat.lt_irrefl 0)⟩
structure RuleAt (W : World) (b o : Nat) (r : RL) (oa : Option Addr) (cap : Nat) : Prop where
 k0 : W.cell? ⟨b, o, none⟩ = some (.int .i64 r.nr)
 k1 : W.cell? ⟨b, o + 1, none⟩ = some (.slice oa r.conds.length cap)
 k2 : W.cell? ⟨b, o + 2, none⟩ = some (.int .i64 r.act.kind)
 k3 : W.cell? ⟨b, o + 3, none⟩ = some (.int .i64 r.act.errno)
 conds : IsConds oa r.conds W
 le : r.conds.length ≤ cap
 cap : cap ≤ maxLen
 ok : RlOk r
theorem RuleAt.on {W V : World} {b o : Nat} {r : RL} {oa : Option Addr} {cap : Nat} (h : RuleAt W b o r oa cap) (hw : b < W.heap.size) (hb : Below W.heap.size W V) : RuleAt V b o r oa cap :=
 have hc := fun j => (bcell hb).1 b j hw
 ⟨(hc _).trans h.k0, (hc _).trans h.k1, (hc _).trans h.k2, (hc _).trans h.k3, h.conds.on hb, h.le, h.cap, h.ok⟩
structure IsRules (oa : Option Addr) (rs : List RL) (W : World) : Prop where
 lie : 0 < rs.length → ∃ b off, oa = some ⟨b, off, none⟩ ∧ b < W.heap.size ∧ ∀ i r, rs[i]? = some r → ∃ ca ccap, RuleAt W b (off + i * 4) r ca ccap
theorem IsRules.on {oa : Option Addr} {rs : List RL} {W V : World} (h : IsRules oa rs W) (hb : Below W.heap.size W V) : IsRules oa rs V :=
 ⟨fun h0 => by
  obtain ⟨b, off, h1, h2, h3⟩ := h.lie h0
  refine ⟨b, off, h1, Nat.lt_of_lt_of_le h2 hb.size, fun i r hi => ?_⟩
  obtain ⟨ca, cc, h4⟩ := h3 i r hi
  exact ⟨ca, cc, h4.on h2 hb⟩⟩
theorem IsRules.nil (oa : Option Addr) (W : World) : IsRules oa [] W := ⟨fun h => absurd h (Nat.lt_irrefl 0)⟩
structure IsPol (oa : Option Addr) (cap : Nat) (p : POL) (W : World) : Prop where
 rules : IsRules oa p.rules W
 le : p.rules.length ≤ cap
 cap : cap ≤ maxLen
 ok : PlOk p
theorem IsPol.on {oa : Option Addr} {cap : Nat} {p : POL} {W V : World} (h : IsPol oa cap p W) (hb : Below W.heap.size W V) : IsPol oa cap p V := ⟨h.rules.on hb, h.le, h.cap, h.ok⟩
end Go.Proofs.YtklibmijiecbfaaGreat

/- strconv.FormatUint at base 10, by the contracts that FormatInt's stands on. -/
namespace Go.Proofs.YtklibmijiecbfaaGreat
open Go.RowKit Go.Sort

end Go.Proofs.YtklibmijiecbfaaGreat

/- The walks of glob.pass and glob.step. -/
namespace Go.Proofs.YtklibmijiecbfaaGreat.Gl
open Go.RowKit
attribute [local go_sem] LA_set LA_get LA_size LA_at

def likeAt (ps : List Part) (i : Nat) : Nat → Bool := (ps.getD i (fun _ => false, false)).1
def manyAt (ps : List Part) (i : Nat) : Bool := (ps.getD i (fun _ => false, false)).2

def PartsIn (w : World) (b : Nat) (ps : List Part) : Prop := b < w.heap.size ∧ (∀ i, i < ps.length → w.cell? ⟨b, i * 257 + 256, none⟩ = some (.bool (manyAt ps i))) ∧ ∀ i c, i < ps.length → c < 256 → w.cell? ⟨b, i * 257 + c, none⟩ = some (.bool (likeAt ps i c))

theorem PartsIn.later {w w' : World} {b : Nat} {ps : List Part} (h : PartsIn w b ps) (hb : Below w.heap.size w w') : PartsIn w' b ps :=
 ⟨Nat.lt_of_lt_of_le h.1 hb.size, fun i hi => by rw [hb.cell (p := ⟨b, _, none⟩) h.1]; exact h.2.1 i hi, fun i c hi hc => by rw [hb.cell (p := ⟨b, _, none⟩) h.1]; exact h.2.2 i c hi hc⟩

theorem flat_get : ∀ (ps : List Part) (i j : Nat), i < ps.length → j < 257 → (flat ps)[i * 257 + j]? = some (.bool (PF (likeAt ps i) (manyAt ps i) j))
 | [], i, j, h, _ => by simp at h
 | p :: ps, 0, j, _, hj => by
  have e : flat (p :: ps) = (LA 257 (PF p.1 p.2)).toList ++ flat ps := by simp [flat]
  rw [e, Nat.zero_mul, Nat.zero_add, List.getElem?_append_left (by simp [LA_size]; exact hj)]
  simpa [likeAt, manyAt] using LA_get 257 (PF p.1 p.2) j hj
 | p :: ps, i + 1, j, h, hj => by
  have e : flat (p :: ps) = (LA 257 (PF p.1 p.2)).toList ++ flat ps := by simp [flat]
  rw [e, List.getElem?_append_right (by simp [LA_size]; omega)]
  have e2 : (i + 1) * 257 + j - (LA 257 (PF p.1 p.2)).toList.length = i * 257 + j := by simp [LA_size]; omega
  rw [e2, flat_get ps i j (by simpa using h) hj]
  rfl

theorem partsIn_of_owns {w : World} {base : Nat} {sv : Value} {ps : List Part} (h : w.ownsRow base 224 257 sv ps.length (flat ps)) (hne : ps ≠ []) : ∃ b cap, sv = .slice (some ⟨b, 0, none⟩) ps.length cap ∧ base ≤ b ∧ PartsIn w b ps := by
 have hn : ps.length ≠ 0 := by simpa using hne
 rcases h.2 with ⟨_, h0⟩ | ⟨g, cap, cur, rfl, hb, hg, _⟩
 ·
  exact absurd h0 hn
 ·
  have hc : ∀ j u, (flat ps)[j]? = some u → w.cell? ⟨g, j, none⟩ = some u := fun j u hu => by
   have := h.cells (g := g) rfl j u hu
   have hadd : (⟨g, 0, none⟩ : Addr).add j = ⟨g, j, none⟩ := by unfold Addr.add; split <;> simp_all
   rwa [hadd] at this
  refine ⟨g, cap, rfl, hb, (Array.getElem?_eq_some_iff.1 hg).1, fun i hi => ?_, fun i c hi hc' => ?_⟩
  ·
   have := hc _ _ (flat_get ps i 256 hi (by omega))
   simpa [PF] using this
  ·
   have := hc _ _ (flat_get ps i c hi (by omega))
   rw [this, PF, if_neg (by omega)]

def passTo (ps : List Part) (f : Nat → Bool) : Nat → Nat → Bool
 | 0 => f
 | k + 1 => if (passTo ps f k k && manyAt ps k) = true then upd (passTo ps f k) (k + 1) true else passTo ps f k
theorem passTo_yes {ps : List Part} {f : Nat → Bool} {k : Nat} (h1 : passTo ps f k k = true) (h2 : manyAt ps k = true) : passTo ps f (k + 1) = upd (passTo ps f k) (k + 1) true := by rw [passTo, if_pos (by rw [h1, h2]; rfl)]
theorem passTo_no {ps : List Part} {f : Nat → Bool} {k : Nat} (h : (passTo ps f k k && manyAt ps k) = false) : passTo ps f (k + 1) = passTo ps f k := by rw [passTo, if_neg (by rw [h]; simp)]

set_option maxRecDepth 10000 in
set_option maxHeartbeats 400000 in
theorem pass_any (ps : List Part) (b cap : Nat) (f : Nat → Bool) (w : World) (hn : ps.length ≤ 24) (hp : PartsIn w b ps) :
  Calls Tryz.prog 127 #[.slice (some ⟨b, 0, none⟩) ps.length cap, .agg (LA 25 f)] w fun e w' => e = .returned (.agg (LA 25 (passTo ps f ps.length))) ∧ Below w.heap.size w w' := by
 obtain ⟨hb, hm, _⟩ := hp
 have Hm := hide hm
 clear hm
 have zl := zv_places
 go_enter Tryz.func127, Tryz.ntmps127
 go_wp2_with fail
 go_loopw [8] (fun i w' => ∃ k : Nat, k ≤ ps.length ∧ i = .int .i64 k ∧ w' = (w.alloc (.cells (LA 25 (passTo ps f k)) 217)).alloc (.cells (LA 25 fun _ => false) 217)) (fun i _ => ps.length - (intOf i).toNat)
 case atStart => exact ⟨0, by omega, rfl, rfl⟩
 case round =>
  obtain ⟨k, hk, rfl, rfl⟩ := hrel
  by_cases hlt : k < ps.length
  ·
   have hc := Hm.out k hlt
   have h25 : k < 25 := by omega
   have hg1 := LA_get 25 (passTo ps f k) (k + 1) (by omega)
   cases h1 : passTo ps f k k
   ·
    have HS := hide (passTo_no (ps := ps) (f := f) (k := k) (by rw [h1]; rfl))
    go_wp2_with fail
    go_roundw
    case rel => exact ⟨k + 1, by omega, by go_num, by rw [HS.out]⟩
    case measure => simp [intOf]; omega
   ·
    cases h2 : manyAt ps k
    ·
     have HS := hide (passTo_no (ps := ps) (f := f) (k := k) (by rw [h1, h2]; rfl))
     rw [h2] at hc
     go_wp2_with fail
     go_roundw
     case rel => exact ⟨k + 1, by omega, by go_num, by rw [HS.out]⟩
     case measure => simp [intOf]; omega
    ·
     have HS := hide (passTo_yes h1 h2)
     rw [h2] at hc
     go_wp2_with fail
     go_roundw
     case rel => exact ⟨k + 1, by omega, by go_num, by rw [HS.out]⟩
     case measure => simp [intOf]; omega
  ·
   have e : k = ps.length := by omega
   have He := hide e
   clear e
   go_wp2_with (first
    | (refine wpList_load_LA 217 25 25 4 rfl _ rfl w.heap.size ?_ Tryz.underlying217 size_places (passTo ps f k) 217 ?_ ?_; (· rfl); (· with_reducible exact heap_alloc2_old _ _ _))
    | (refine wpList_store_LA 217 25 rfl _ _ rfl (w.heap.size + 1) ?_ (passTo ps f k) ?_ size_places (fun _ => false) 217 ?_ ?_; (· rfl); (· rfl); (· with_reducible exact heap_alloc2_new _ _ _))
    | (refine bodyPost_ret (results_LA 25 25 4 rfl _ _ (w.heap.size + 1) _ 217 rfl (heap_setRow_same _ (heap_alloc2_new _ _ _)) Tryz.underlying217 size_places) rfl ⟨?_, ?_⟩; (· rw [He.out]); (· exact below_setRow (((Below.refl _ _).alloc (Nat.le_refl _) _).alloc (by simp) _) (by omega) _)))

def stepTo (ps : List Part) (f : Nat → Bool) (b : Nat) : Nat → Nat → Bool
 | 0 => fun _ => false
 | k + 1 => if (f k && likeAt ps k b) = true then (if manyAt ps k = true then upd (stepTo ps f b k) k true else upd (stepTo ps f b k) (k + 1) true) else stepTo ps f b k
theorem stepTo_no {ps : List Part} {f : Nat → Bool} {b k : Nat} (h : (f k && likeAt ps k b) = false) : stepTo ps f b (k + 1) = stepTo ps f b k := by rw [stepTo, if_neg (by rw [h]; simp)]
theorem stepTo_many {ps : List Part} {f : Nat → Bool} {b k : Nat} (h1 : f k = true) (h2 : likeAt ps k b = true) (h3 : manyAt ps k = true) : stepTo ps f b (k + 1) = upd (stepTo ps f b k) k true := by rw [stepTo, if_pos (by rw [h1, h2]; rfl), if_pos h3]
theorem stepTo_one {ps : List Part} {f : Nat → Bool} {b k : Nat} (h1 : f k = true) (h2 : likeAt ps k b = true) (h3 : manyAt ps k = false) : stepTo ps f b (k + 1) = upd (stepTo ps f b k) (k + 1) true := by rw [stepTo, if_pos (by rw [h1, h2]; rfl), if_neg (by rw [h3]; simp)]

def SW (w : World) (f g : Nat → Bool) : World := ((w.alloc (.cells (LA 25 f) 217)).alloc (.cells (LA 25 fun _ => false) 217)).alloc (.cells (LA 25 g) 217)
theorem SW_heap1 (w : World) (f g : Nat → Bool) : (SW w f g).heap[w.heap.size + 1]? = some (.cells (LA 25 fun _ => false) 217 (0, 0)) := by
 unfold SW
 have h := (Below.heap_alloc ((w.alloc (.cells (LA 25 f) 217)).alloc (.cells (LA 25 fun _ => false) 217)) (.cells (LA 25 g) 217) (w.heap.size + 1) (by simp))
 exact h.trans (heap_alloc2_new _ _ _)
theorem SW_heap2 (w : World) (f g : Nat → Bool) : (SW w f g).heap[w.heap.size + 1 + 1]? = some (.cells (LA 25 g) 217 (0, 0)) := by
 unfold SW
 have := heap_alloc_new ((w.alloc (.cells (LA 25 f) 217)).alloc (.cells (LA 25 fun _ => false) 217)) (.cells (LA 25 g) 217)
 simpa using this
theorem SW_below (w : World) (f g : Nat → Bool) : Below w.heap.size w (SW w f g) := (((Below.refl _ _).alloc (Nat.le_refl _) _).alloc (by simp) _).alloc (by simp; omega) _

theorem SW_heap0 (w : World) (f g : Nat → Bool) : (SW w f g).heap[w.heap.size]? = some (.cells (LA 25 f) 217 (0, 0)) := by
 unfold SW
 have h := (Below.heap_alloc ((w.alloc (.cells (LA 25 f) 217)).alloc (.cells (LA 25 fun _ => false) 217)) (.cells (LA 25 g) 217) w.heap.size (by simp; omega))
 exact h.trans (heap_alloc2_old _ _ _)
theorem SW_old (w : World) (f g : Nat → Bool) (b i : Nat) (h : b < w.heap.size) : (SW w f g).cell? ⟨b, i, none⟩ = w.cell? ⟨b, i, none⟩ := (SW_below w f g).cell (p := ⟨b, i, none⟩) h
theorem SW_at (w : World) (f g : Nat → Bool) (i : Nat) (h : i < 25) : (SW w f g).cell? ⟨w.heap.size, i, none⟩ = some (.bool (f i)) := by
 rw [cell_of_row _ _ i _ _ _ (SW_heap0 w f g), LA_get 25 f i h]
theorem SW_to (w : World) (f g : Nat → Bool) (i : Nat) (h : i < 25) : (SW w f g).cell? ⟨w.heap.size + 1 + 1, i, none⟩ = some (.bool (g i)) := by
 rw [cell_of_row _ _ i _ _ _ (SW_heap2 w f g), LA_get 25 g i h]
theorem SW_frozen (w : World) (f g : Nat → Bool) (i : Nat) : (SW w f g).frozen? ⟨w.heap.size + 1 + 1, i, none⟩ = false := frozen_of_row _ _ i _ _ (SW_heap2 w f g)
theorem SW_set (w : World) (f g : Nat → Bool) (i : Nat) (b : Bool) : (SW w f g).setCell ⟨w.heap.size + 1 + 1, i, none⟩ (.bool b) = SW w f (upd g i b) := by
 rw [setCell_eq_setRow _ _ i _ _ _ _ (SW_heap2 w f g), LA_set]
 have h := World.setRow_alloc_new ((w.alloc (.cells (LA 25 f) 217)).alloc (.cells (LA 25 fun _ => false) 217)) (LA 25 g) (LA 25 (upd g i b)) 217
 have e : ((w.alloc (.cells (LA 25 f) 217)).alloc (.cells (LA 25 fun _ => false) 217)).heap.size = w.heap.size + 1 + 1 := by simp
 rw [e] at h
 exact h
attribute [local go_sem] SW_old SW_at SW_to SW_frozen SW_set

set_option maxRecDepth 10000 in
set_option maxHeartbeats 400000 in
theorem step_any (ps : List Part) (b cap c : Nat) (f : Nat → Bool) (w : World) (hn : ps.length ≤ 24) (hc256 : c < 256) (hp : PartsIn w b ps) :
  Calls Tryz.prog 128 #[.slice (some ⟨b, 0, none⟩) ps.length cap, .agg (LA 25 f), .int .u8 c] w fun e w' => e = .returned (.agg (LA 25 (stepTo ps f c ps.length))) ∧ Below w.heap.size w w' := by
 obtain ⟨hb, hm, hl⟩ := hp
 have Hm := hide hm
 have Hl := hide hl
 clear hm hl
 have zl := zv_places
 go_enter Tryz.func128, Tryz.ntmps128
 go_wp2_with fail
 go_loopw [11] (fun i w' => ∃ k : Nat, k ≤ ps.length ∧ i = .int .i64 k ∧ w' = SW w f (stepTo ps f c k)) (fun i _ => ps.length - (intOf i).toNat)
 case atStart => exact ⟨0, by omega, rfl, rfl⟩
 case round =>
  obtain ⟨k, hk, rfl, rfl⟩ := hrel
  by_cases hlt : k < ps.length
  ·
   have hc := Hm.out k hlt
   have hlk := Hl.out k c hlt hc256
   have h25 : k < 25 := by omega
   have ht0 := SW_to w f (stepTo ps f c k) k h25
   have ht1 := SW_to w f (stepTo ps f c k) (k + 1) (by omega)
   cases h1 : f k
   ·
    have HS := hide (stepTo_no (ps := ps) (f := f) (b := c) (k := k) (by rw [h1]; rfl))
    go_wp2_with fail
    go_roundw
    case rel => exact ⟨k + 1, by omega, by go_num, by rw [HS.out]⟩
    case measure => simp [intOf]; omega
   ·
    cases h2 : likeAt ps k c
    ·
     have HS := hide (stepTo_no (ps := ps) (f := f) (b := c) (k := k) (by rw [h1, h2]; rfl))
     rw [h2] at hlk
     go_wp2_with fail
     go_roundw
     case rel => exact ⟨k + 1, by omega, by go_num, by rw [HS.out]⟩
     case measure => simp [intOf]; omega
    ·
     rw [h2] at hlk
     cases h3 : manyAt ps k
     ·
      have HS := hide (stepTo_one h1 h2 h3)
      rw [h3] at hc
      go_wp2_with fail
      go_roundw
      case rel => exact ⟨k + 1, by omega, by go_num, by rw [HS.out]⟩
      case measure => simp [intOf]; omega
     ·
      have HS := hide (stepTo_many h1 h2 h3)
      rw [h3] at hc
      go_wp2_with fail
      go_roundw
      case rel => exact ⟨k + 1, by omega, by go_num, by rw [HS.out]⟩
      case measure => simp [intOf]; omega
  ·
   have e : k = ps.length := by omega
   have He := hide e
   clear e
   go_wp2_with (first
    | (refine wpList_load_LA 217 25 25 4 rfl _ rfl (w.heap.size + 1 + 1) ?_ Tryz.underlying217 size_places (stepTo ps f c k) 217 ?_ ?_; (· rfl); (· with_reducible exact SW_heap2 _ _ _))
    | (refine wpList_store_LA 217 25 rfl _ _ rfl (w.heap.size + 1) ?_ (stepTo ps f c k) ?_ size_places (fun _ => false) 217 ?_ ?_; (· rfl); (· rfl); (· with_reducible exact SW_heap1 _ _ _))
    | (refine bodyPost_ret (results_LA 25 25 4 rfl _ _ (w.heap.size + 1) _ 217 rfl (heap_setRow_same _ (SW_heap1 _ _ _)) Tryz.underlying217 size_places) rfl ⟨?_, ?_⟩; (· rw [He.out]); (· exact below_setRow (SW_below _ _ _) (by omega) _)))
end Go.Proofs.YtklibmijiecbfaaGreat.Gl

/- The walks of glob.Match and glob.Check. -/
namespace Go.Proofs.YtklibmijiecbfaaGreat.Gl
open Go.RowKit
attribute [local go_sem] LA_set LA_get LA_size LA_at

theorem built_places : Tryz.prog.built 217 [(0, .bool true)] = some (LA 25 fun i => i == 0) := by rw [LA_eq]; kernel_rfl

def runTo (ps : List Part) (s : ByteArray) : Nat → Nat → Bool
 | 0 => passTo ps (fun i => i == 0) ps.length
 | k + 1 => passTo ps (stepTo ps (runTo ps s k) (byteAt s k) ps.length) ps.length
def matchR (p s : ByteArray) : Bool := match parseR p with
 | .inl _ => false
 | .inr ps => runTo ps s s.size ps.length

def MW (w : World) (b g : Nat) (ps : List Part) (f : Nat → Bool) (W : World) : Prop := Below w.heap.size w W ∧ PartsIn W b ps ∧ w.heap.size ≤ g ∧ b < g ∧ W.heap[g]? = some (.cells (LA 25 f) 217 (0, 0))

theorem wp_callOf {P : Program} {o : Oper} {a : Act} {w : World} {K : Act → World → Prop} {Q : Exit → Act → World → Prop} {R : Ending → World → Prop} (f : FuncId) (args : Array Value)
  (hrun : (execOp a.eval o).run P w = .ok (.enter f args) w) (hc : Calls P f args w R) (hk : ∀ e w', R e w' → ∃ v, e = .returned v ∧ K (a.put o.dst v) w') : o.wp P a w K Q := by
 unfold Oper.wp
 rw [hrun, Oper.upon_enter]
 refine hc.mono fun e w' hR => ?_
 obtain ⟨v, rfl, h⟩ := hk e w' hR
 exact h

theorem wpAny_only {P : Program} {md : Region.Mode} {ops : Array Oper} {Q : Exit → Act → World → Prop} {fuel : Nat} {listed : Array Bool} {a : Act} {w : World} {i : Nat} {o : Oper} (hr : Region.ready md ops listed = [i]) (ho : ops.toList[i]? = some o) (hg : o.guard = none)
  (h : ∀ K : Act → World → Prop, (∀ a w, wpAny P md ops Q fuel (listed.setIfInBounds i true) a w → K a w) → Oper.wp P o a w K Q) : wpAny P md ops Q (fuel + 1) listed a w := by
 refine wpAny_ready hr (by simp) ?_
 refine AllReady.cons (o := o) (by simpa using ho) (fun K hK => ?_) AllReady.nil
 have hw : Region.wanted o (yielded ops a.tmps) = true := by simp [Region.wanted, hg]
 rw [if_pos hw]
 exact h K hK

theorem wpAny_takeOf {P : Program} {md : Region.Mode} {ops : Array Oper} {Q : Exit → Act → World → Prop} {fuel : Nat} {listed : Array Bool} {a : Act} {w : World} (i : Nat) {o : Oper} (d : Option Tmp) (v : Value) (ho : ops.toList[i]? = some o) (hd : o.dst = d)
  (hs : Region.noSelect ops = true) (hf : Region.free md ops listed i = true) (hr : (Region.ready md ops listed).contains i = true)
  (hQ : ∀ c a w, Q (.panic c) (a.put d v) w → Q (.panic c) a w) (hy : Yields P ops o v a)
  (h : wpAny P md ops Q fuel (listed.setIfInBounds i true) (a.put d v) w) : wpAny P md ops Q (fuel + 1) listed a w := by
 subst hd
 exact wpAny_take (i := i) (oi := o) (by simpa using ho) hs hf hr hQ hy h

theorem MW.later {w W V : World} {b g : Nat} {ps : List Part} {f : Nat → Bool} (h : MW w b g ps f W) (hb : Below W.heap.size W V) : MW w b g ps f V := by
 obtain ⟨h1, h2, h3, h4, h5⟩ := h
 have hlt : g < W.heap.size := (Array.getElem?_eq_some_iff.1 h5).1
 exact ⟨h1.trans (hb.mono h1.size), h2.later hb, h3, h4, (hb.block g hlt).trans h5⟩
theorem MW.drew {w W : World} {b g : Nat} {ps : List Part} {f : Nat → Bool} (h : MW w b g ps f W) : MW w b g ps f W.drew := h.later ((Below.refl _ _).drew)
theorem MW.set {w W : World} {b g : Nat} {ps : List Part} {f f' : Nat → Bool} (h : MW w b g ps f W) : MW w b g ps f' (W.setRow g (LA 25 f')) := by
 obtain ⟨h1, ⟨p1, p2, p3⟩, h3, h4, h5⟩ := h
 have hc : ∀ i, (W.setRow g (LA 25 f')).cell? ⟨b, i, none⟩ = W.cell? ⟨b, i, none⟩ := fun i => World.cell?_of_block (setRow_other W g b _ (by omega))
 exact ⟨below_setRow h1 h3 _, ⟨by simpa using p1, fun i hi => by rw [hc]; exact p2 i hi, fun i c hi hcc => by rw [hc]; exact p3 i c hi hcc⟩, h3, h4, heap_setRow_same _ h5⟩

theorem MW_start {w W W1 : World} {b : Nat} {ps : List Part} {f : Nat → Bool} (hW : Below w.heap.size w W) (hp : PartsIn W b ps) (hW1 : Below W.heap.size W W1) :
  MW w b W1.heap.size ps f ((W1.alloc (.cells (LA 25 fun _ => false) 217)).setRow W1.heap.size (LA 25 f)) := by
 have hb : Below W.heap.size W ((W1.alloc (.cells (LA 25 fun _ => false) 217)).setRow W1.heap.size (LA 25 f)) := below_setRow (hW1.alloc hW1.size _) hW1.size _
 exact ⟨hW.trans (hb.mono hW.size), hp.later hb, Nat.le_trans hW.size hW1.size, Nat.lt_of_lt_of_le hp.1 hW1.size, heap_setRow_same _ (heap_alloc_new _ _)⟩

theorem partsR_length : ∀ (k : Nat) (p : ByteArray) (a : Nat) (ps : List Part), partsR k p a = some ps → ps.length ≤ p.size - a
 | 0, _, _, _, h => by simp [partsR] at h
 | k + 1, p, a, ps, h => by
  rw [partsR] at h
  split at h
  ·
   rename_i hlt
   split at h
   ·
    simp at h
   ·
    rename_i f m n hF
    cases hr : partsR k p (a + n) with
    | none => rw [hr] at h; simp at h
    | some r =>
     rw [hr] at h
     simp only [Option.map_some, Option.some.injEq] at h
     subst h
     have := partsR_length k p (a + n) r hr
     have hb := firstR_bound (by rw [size_extract]; omega) hF
     rw [size_extract] at hb
     simp only [List.length_cons]
     omega
  ·
   simp only [Option.some.injEq] at h
   subst h
   simp

theorem partsR_pos {p : ByteArray} {ps : List Part} (h : parseR p = .inr ps) : ps ≠ [] ∧ ps.length ≤ 24 := by
 unfold parseR at h
 split at h
 ·
  simp at h
 ·
  split at h
  ·
   simp at h
  ·
   rename_i h24 h0
   cases hq : partsR (p.size + 1) p 0 with
   | none => simp [hq] at h
   | some qs =>
    simp only [hq, Sum.inr.injEq] at h
    subst h
    refine ⟨?_, Nat.le_trans (partsR_length _ _ _ _ hq) (by omega)⟩
    rw [partsR, if_pos (by omega)] at hq
    intro e
    subst e
    split at hq
    ·
     simp at hq
    ·
     cases hr : partsR p.size p (0 + _) with
     | none => rw [hr] at hq; simp at hq
     | some r => rw [hr] at hq; simp at hq

set_option maxRecDepth 10000 in
set_option maxHeartbeats 400000 in
theorem match_any (p s : ByteArray) (hz : p.size ≤ 1000) (hs : s.size ≤ 1000) (w : World) :
  Calls Tryz.prog 113 #[.string p, .string s] w fun e w' => e = .returned (.bool (matchR p s)) ∧ Below w.heap.size w w' := by
 unfold matchR
 cases hP : parseR p with
 | inl n =>
  have HP := hide hP
  clear hP
  go_enter Tryz.func113, Tryz.ntmps113
  go_wp2_with (go_at_call 121; refine (parse_any p hz _).mono ?_; rw [HP.out]; rintro e W ⟨hW, rfl⟩)
  go_ret
  exact ⟨rfl, hW⟩
 | inr ps =>
  have hps := partsR_pos hP
  have HP := hide hP
  clear hP
  obtain ⟨hne, h24⟩ := hps
  have zl := zv_places
  go_enter Tryz.func113, Tryz.ntmps113
  go_wp2_with (first
   | (go_at_call 121; refine (parse_any p hz _).mono ?_; rw [HP.out]; rintro e W ⟨hW, sv, rfl, hown⟩; obtain ⟨b, cap, rfl, hbb, hpi⟩ := partsIn_of_owns hown hne)
   | (refine wpList_build_one rfl 217 _ _ rfl (.bool true) ?_ _ built_places ?_; (· rfl))
   | (go_at_call 127; refine (pass_any ps b cap (fun i => i == 0) _ h24 hpi).mono ?_; rintro e W1 ⟨rfl, hW1⟩)
   | (refine wpList_store_LA 217 25 rfl _ _ rfl W1.heap.size ?_ (passTo ps (fun i => i == 0) ps.length) ?_ size_places (fun _ => false) 217 ?_ ?_; (· rfl); (· rfl); (· with_reducible exact heap_alloc_new _ _)))
  refine wp_forget (MW w b W1.heap.size ps (passTo ps (fun i => i == 0) ps.length)) (MW_start hW hpi hW1) ?_
  generalize W1.heap.size = g
  rintro V0 hV0
  go_loopw [21] (fun i w' => ∃ k : Nat, k ≤ s.size ∧ i = .int .i64 k ∧ MW w b g ps (runTo ps s k) w') (fun i _ => s.size - (intOf i).toNat)
  case atStart => exact ⟨0, by omega, rfl, hV0⟩
  case round =>
   obtain ⟨k, hk, rfl, hMW⟩ := hrel
   clear hV0
   by_cases hlt : k < s.size
   ·
    have ek := byteAt_eq s k hlt
    go_wp2_with fail
    refine wp_region_any (by kernel_rfl) ?_
    change wpAny _ _ _ _ _ _ _ (World.drew _)
    refine wpAny_takeOf 0 (some 24) (.slice (some ⟨b, 0, none⟩) ps.length cap) rfl rfl (by kernel_rfl) (by kernel_rfl) (by kernel_rfl) (fun _ _ _ h => h) (Or.inl ⟨by rfl, ?_⟩) ?_
    ·
     intro wx
     go_simp
    simp only [Act.put, LT1, LT2, LT3]
    refine wpAny_takeOf 1 (some 25) (.slice (some ⟨b, 0, none⟩) ps.length cap) rfl rfl (by kernel_rfl) (by kernel_rfl) (by kernel_rfl) (fun _ _ _ h => h) (Or.inl ⟨by rfl, ?_⟩) ?_
    ·
     intro wx
     go_simp
    simp only [Act.put, LT1, LT2, LT3]
    refine wpAny_takeOf 3 (some 27) (.string s) rfl rfl (by kernel_rfl) (by kernel_rfl) (by kernel_rfl) (fun _ _ _ h => h) (Or.inl ⟨by rfl, ?_⟩) ?_
    ·
     intro wx
     go_simp
    simp only [Act.put, LT1, LT2, LT3]
    refine wpAny_takeOf 4 (some 28) (.int .i64 k) rfl rfl (by kernel_rfl) (by kernel_rfl) (by kernel_rfl) (fun _ _ _ h => h) (Or.inl ⟨by rfl, ?_⟩) ?_
    ·
     intro wx
     go_simp
    simp only [Act.put, LT1, LT2, LT3]
    refine wpAny_takeOf 5 (some 29) (.int .u8 (byteAt s k)) rfl rfl (by kernel_rfl) (by kernel_rfl) (by kernel_rfl) (fun _ _ _ h => h) (Or.inl ⟨by rfl, ?_⟩) ?_
    ·
     intro wx
     go_simp
    simp only [Act.put, LT1, LT2, LT3]
    refine wpAny_only (i := 2) (by kernel_rfl) rfl rfl (fun K hK => ?_)
    refine wp_load_row 217 (.tmp 7) rfl g rfl 217 (LA 25 (runTo ps s k)) (0, 0) _ hMW.drew.2.2.2.2 Tryz.underlying217 rfl (by rw [LA_size]; exact size_places) ?_
    refine hK _ _ ?_
    clear hK K
    simp only [Act.put, LT1, LT2, LT3]
    refine wpAny_only (i := 6) (by kernel_rfl) rfl rfl (fun K hK => ?_)
    refine wp_callOf 128 #[(.slice (some ⟨b, 0, none⟩) ps.length cap), .agg (LA 25 (runTo ps s k)), .int .u8 (byteAt s k)] (by kernel_rfl) (step_any ps b cap (byteAt s k) (runTo ps s k) _ h24 (byteAt_lt s k) hMW.drew.2.1) ?_
    rintro e W2 ⟨rfl, hW2⟩
    refine ⟨_, rfl, hK _ _ ?_⟩
    clear hK K
    simp only [Act.put, LT1, LT2, LT3]
    refine wpAny_only (i := 7) (by kernel_rfl) rfl rfl (fun K hK => ?_)
    refine wp_callOf 127 #[(.slice (some ⟨b, 0, none⟩) ps.length cap), .agg (LA 25 (stepTo ps (runTo ps s k) (byteAt s k) ps.length))] (by kernel_rfl) (pass_any ps b cap _ _ h24 (hMW.drew.later hW2).2.1) ?_
    rintro e W3 ⟨rfl, hW3⟩
    refine ⟨_, rfl, hK _ _ ?_⟩
    clear hK K
    simp only [Act.put, LT1, LT2, LT3]
    refine wpAny_only (i := 8) (by kernel_rfl) rfl rfl (fun K hK => ?_)
    refine wp_store_row 217 (.tmp 7) (.tmp 31) rfl g (LA 25 (runTo ps s (k + 1))) rfl rfl 217 (LA 25 (runTo ps s k)) ((hMW.drew.later hW2).later hW3).2.2.2.2 (by rw [LA_size]; exact size_places) (by rw [LA_size, LA_size]) (LA_one _ _) ?_
    refine hK _ _ ?_
    clear hK K
    simp only [Act.put]
    refine wpAny_done (by kernel_rfl) ?_ _
    have hM2 := MW.set (f' := runTo ps s (k + 1)) ((hMW.drew.later hW2).later hW3)
    have HM2 := hide hM2
    clear hM2 hMW hW2 hW3
    go_wp2
    go_roundw
    case rel => exact ⟨k + 1, by omega, by go_num, HM2.out⟩
    case measure => simp [intOf]; omega
   ·
    have e : k = s.size := by omega
    subst e
    have hc := cell_of_row wr g ps.length _ _ _ hMW.2.2.2.2
    rw [LA_get 25 _ _ (by omega)] at hc
    have HM := hide hMW.1
    clear hMW
    go_wp2
    go_ret
    exact ⟨rfl, HM.out⟩

theorem check_any (p : ByteArray) (hz : p.size ≤ 1000) (w : World) :
  Calls Tryz.prog 104 #[.string p] w fun e w' => e = .returned (match parseR p with | .inl n => .iface 82 (.int .i64 n) | .inr _ => .nilIface) ∧ Below w.heap.size w w' := by
 cases hP : parseR p with
 | inl n =>
  have HP := hide hP
  clear hP
  go_enter Tryz.func104, Tryz.ntmps104
  go_wp2_with (go_at_call 121; refine (parse_any p hz _).mono ?_; rw [HP.out]; rintro e W ⟨hW, rfl⟩)
  go_ret
  exact ⟨rfl, hW⟩
 | inr ps =>
  have HP := hide hP
  clear hP
  go_enter Tryz.func104, Tryz.ntmps104
  go_wp2_with (go_at_call 121; refine (parse_any p hz _).mono ?_; rw [HP.out]; rintro e W ⟨hW, sv, rfl, hown⟩)
  go_ret
  exact ⟨rfl, hW⟩
end Go.Proofs.YtklibmijiecbfaaGreat.Gl

/- policy.Check: actions, conds. -/
namespace Go.Proofs.YtklibmijiecbfaaGreat
open Go.RowKit

theorem ret_err {v : Value} {f : Nat} (k : Nat) (hv : v = errV k) (h : f = k) : Ending.returned v = .returned (errV f) := by rw [hv, h]

theorem kindOf_any (op : Int) (w : World) : Calls Tryz.prog 102 #[.int .i64 op] w fun e w' => e = .returned (.int .i64 (kindOp op : Nat)) ∧ w' = w := by
 go_enter Tryz.func102, Tryz.ntmps102
 go_wp2
 all_goals
  go_ret
  refine ⟨ret_int ?_, rfl⟩
  simp_all [kindOp]

theorem checkAction_any (a : ACT) (w : World) : Calls Tryz.prog 42 #[actV a] w fun e w' => e = .returned (errV (actF a)) ∧ Below w.heap.size w w' := by
 obtain ⟨k, e⟩ := a
 unfold actV
 simp only
 go_enter Tryz.func42, Tryz.ntmps42
 go_wp2
 all_goals
  go_ret
  refine ⟨?_, box_below _ _⟩
 all_goals first
  | (refine ret_err 0 rfl ?_; simp_all [actF]; done)
  | (refine ret_err 1 rfl ?_; simp_all [actF]; done)
  | (refine ret_err 3 rfl ?_; simp_all [actF]; done)
  | (refine ret_err 0 rfl ?_; simp [actF, *]; omega)
  | (refine ret_err 1 rfl ?_; simp [actF, *]; omega)
  | (refine ret_err 3 rfl ?_; simp [actF, *]; omega)
end Go.Proofs.YtklibmijiecbfaaGreat
