/- Laws for the loop of glob.parse: a slice of parts of the call's own. -/
import Derived.Test.YtbifjokfnahiaabGreatDoorK4
namespace Go.Proofs.YtbifjokfnahiaabGreatDoor.Gl
open Go.RowKit

abbrev Part := (Nat → Bool) × Bool
def flat (ps : List Part) : List Value := ps.flatMap fun p => (LA 257 (PF p.1 p.2)).toList
theorem flat_nil : flat [] = [] := rfl
theorem flat_snoc (ps : List Part) (p : Part) : flat (ps ++ [p]) = flat ps ++ (LA 257 (PF p.1 p.2)).toList := by simp [flat]
theorem flat_length (ps : List Part) : (flat ps).length = ps.length * 257 := by
  induction ps with
  | nil => rfl
  | cons p ps ih =>
    have : flat (p :: ps) = (LA 257 (PF p.1 p.2)).toList ++ flat ps := by simp [flat]
    rw [this, List.length_append, ih, Array.length_toList, LA_size, List.length_cons]
    omega

/-- A part read out of its block. -/
theorem wpList_load_part {ops : Array Oper} {rest : List Oper} {o : Oper} {a : Act} {w : World} {Q : Exit → Act → World → Prop} (hgd : o.guard = none) (x : Operand) (ho : o.op = .load 118 x)
    (g : Nat) (hx : a.eval x = .pointer (some ⟨g, 0, none⟩)) (f : Nat → Bool) (hg : w.heap[g]? = some (.cells (LA 257 f) 118 (0, 0)))
    (h : wpList Tryz.prog ops Q rest (a.put o.dst (.agg (LA 257 f))) w) : wpList Tryz.prog ops Q (o :: rest) a w :=
  wpList_load_row hgd 118 x ho g hx 118 (LA 257 f) (0, 0) _ hg Tryz.underlying118 rfl (by rw [LA_size]; exact size_part) h

theorem info_part : ∃ i, Tryz.prog.info? 118 = some i ∧ i.zero = some (.agg (LA 257 fun _ => false)) ∧ i.size = 257 ∧ i.bytes = 257 := by
  have hz := zero_part
  have hs := size_part
  have hb : (Tryz.prog.info? 118).map (·.bytes) = some 257 := by kernel_rfl
  cases hq : Tryz.prog.info? 118 with
  | none => rw [hq] at hs; simp at hs
  | some i =>
    rw [hq] at hz hs hb
    simp at hz hs hb
    exact ⟨i, rfl, hz, hs, hb⟩

theorem fill_parts (F : Nat → Bool) : Instr.fill (fun i => some (i * 257, 257)) ((Array.range (1 * 257)).map ((LA0 257 fun _ => false)[· % (LA0 257 fun _ => false).size]!)) [(0, .agg (LA0 257 F))] = some (LA0 257 F) := by kernel_rfl

/-- '[]part{x}' for an append: a new block with the part in it. -/
theorem wpList_buildSlice_part {ops : Array Oper} {rest : List Oper} {o : Oper} {a : Act} {w : World} {Q : Exit → Act → World → Prop} (hg : o.guard = none) (x : Operand) (ho : o.op = .buildSlice 98 1 #[(0, x)])
    (F : Nat → Bool) (hx : a.eval x = .agg (LA 257 F)) (h : wpList Tryz.prog ops Q rest (a.put o.dst (.slice (some ⟨w.heap.size, 0, none⟩) 1 1)) (w.alloc (.cells (LA 257 F) 118))) : wpList Tryz.prog ops Q (o :: rest) a w := by
  obtain ⟨i, hi, hz, hs, _⟩ := info_part
  refine wpList_buildSlice hg 98 118 1 #[(0, x)] ho (LA 257 F) i _ Tryz.underlying98 hi hz (by rw [hs]; decide) (by rw [hs]; decide) ?_ h
  rw [hs]
  have := fill_parts F
  simp only [Value.cells]
  simpa [hx, LA_eq] using this

theorem grown_of_below {w w' : World} (h : Below w.heap.size w w') : w.grownBy w' none := ⟨h.os, h.tape, h.output, h.size, fun k hk _ => h.block k hk⟩

theorem owns_later {w w' : World} {base n : Nat} {v : Value} {xs : List Value} (h : w.ownsRow base 118 257 v n xs) (hb : Below w.heap.size w w') : w'.ownsRow base 118 257 v n xs := by
  refine h.kept (grown_of_below hb) ?_
  cases hv : v.ownBlock with
  | none => exact .inl rfl
  | some k => exact .inr (by simp)

theorem wpList_append_part {ops : Array Oper} {rest : List Oper} {o : Oper} {a : Act} {w : World} {Q : Exit → Act → World → Prop} (hgd : o.guard = none) (s x : Operand)
    (ho : o.op = .call { callee := .builtin .append, args := #[s, x], argTypes := #[98, 98] })
    (base : Nat) (v : Value) (ps : List Part) (hs : a.eval s = v) (hown : w.ownsRow base 118 257 v ps.length (flat ps))
    (g : Nat) (hx : a.eval x = .slice (some ⟨g, 0, none⟩) 1 1) (p : Part) (hg : w.heap[g]? = some (.cells (LA 257 (PF p.1 p.2)) 118 (0, 0)))
    (hn : ps.length ≤ 1000) (hbase : base ≤ w.heap.size)
    (h : ∀ v' w', w'.ownsRow base 118 257 v' (ps.length + 1) (flat (ps ++ [p])) → w.grownBy w' v.ownBlock → wpList Tryz.prog ops Q rest (a.put o.dst v') w') : wpList Tryz.prog ops Q (o :: rest) a w := by
  obtain ⟨i, hi, hz, hsz, hby⟩ := info_part
  refine wpList_append_own (P := Tryz.prog) w hgd s x 98 ho base 118 i _ 257 257 Tryz.underlying98 hi hz hsz hby (by simp [Value.cells, LA_size]) (by decide) v ps.length (flat ps) hs hown ⟨g, 0, none⟩ 1 1 (LA 257 (PF p.1 p.2)).toList hx (by simp [LA_size]) ?_ ?_ (by simp only [maxLen]; omega) (by omega) hbase ?_
  · intro j u hu
    have hadd : (⟨g, 0, none⟩ : Addr).add j = ⟨g, j, none⟩ := by unfold Addr.add; split <;> simp_all
    rw [hadd, cell_of_row w g j _ _ _ hg]
    simpa using hu
  · intro u hu
    have := LA_one 257 (PF p.1 p.2)
    rw [Array.all_eq_true_iff_forall_mem] at this
    exact this u (by simpa using hu)
  · intro v' w' h1 h2 _
    refine h v' w' ?_ h2
    rw [flat_snoc]
    exact h1
end Go.Proofs.YtbifjokfnahiaabGreatDoor.Gl

/- The walk of glob.parse. -/
namespace Go.Proofs.YtbifjokfnahiaabGreatDoor.Gl
open Go.RowKit
attribute [local go_sem] LA_size

/-- The parts of a pattern from a place on; none, if it is no pattern. -/
def partsR : Nat → ByteArray → Nat → Option (List Part)
  | 0, _, _ => none
  | k + 1, s, a => if a < s.size then (match firstR (s.extract a s.size) with
    | none => none
    | some (f, m, n) => (partsR k s (a + n)).map ((f, m) :: ·)) else some []

theorem classFin_pos {nb : Bool} {B size n : Nat} {f : Nat → Bool} {x : Option (Nat × (Nat → Bool))} (h : classFin nb B size x = some (f, n)) : 1 ≤ n := by
  cases x with
  | none => simp [classFin] at h
  | some y =>
    obtain ⟨a, g⟩ := y
    simp only [classFin] at h
    split at h
    · simp at h
    · simp only [Option.some.injEq, Prod.mk.injEq] at h; omega
theorem scan_le : ∀ (k : Nat) (s : ByteArray) (a : Nat) (f : Nat → Bool) (b : Nat) (g : Nat → Bool), a ≤ s.size → scan k s a f = some (b, g) → b ≤ s.size
  | 0, _, _, _, _, _, _, h => by simp [scan] at h
  | k + 1, s, a, f, b, g, ha, h => by
    rw [scan] at h
    split at h
    · rename_i hc
      split at h
      · simp at h
      · exact scan_le k s _ _ b g (memberAt_le s a hc.1).1 h
    · simp only [Option.some.injEq, Prod.mk.injEq] at h; omega
theorem firstR_bound {s : ByteArray} (hs : 1 ≤ s.size) {f : Nat → Bool} {m : Bool} {n : Nat} (h : firstR s = some (f, m, n)) : 1 ≤ n ∧ n ≤ s.size := by
  unfold firstR at h
  split at h
  · rename_i hst
    simp only [starsB, Bool.and_eq_true, decide_eq_true_eq] at hst
    simp only [Option.some.injEq, Prod.mk.injEq] at h; omega
  · split at h
    · simp only [Option.some.injEq, Prod.mk.injEq] at h; omega
    · split at h
      · simp only [Option.some.injEq, Prod.mk.injEq] at h; omega
      · split at h
        · unfold classP at h
          cases hc : classR s with
          | none => simp [hc] at h
          | some x =>
            obtain ⟨g, k⟩ := x
            simp only [hc, Option.map_some, Option.some.injEq, Prod.mk.injEq] at h
            obtain ⟨rfl, rfl, rfl⟩ := h
            unfold classR at hc
            refine ⟨classFin_pos hc, ?_⟩
            cases hsc : scan (s.size + 1) s (classBegin s) fun _ => false with
            | none => simp [hsc, classFin] at hc
            | some y =>
              obtain ⟨b, g'⟩ := y
              have hb : classBegin s ≤ s.size := by
                unfold classBegin notB
                split
                · rename_i hh; simp at hh; omega
                · omega
              have := scan_le _ _ _ _ _ _ hb hsc
              simp only [hsc, classFin] at hc
              split at hc
              · simp at hc
              · simp only [Option.some.injEq, Prod.mk.injEq] at hc; omega
        · split at h
          · unfold escR at h
            split at h
            · simp only [Option.some.injEq, Prod.mk.injEq] at h; omega
            · simp at h
          · split at h
            · simp only [Option.some.injEq, Prod.mk.injEq] at h; omega
            · simp at h

/-- The number of the error, or the parts. -/
def parseR (p : ByteArray) : Nat ⊕ List Part := if 24 < p.size then .inl 2 else if p.size = 0 then .inl 4 else match partsR (p.size + 1) p 0 with
  | none => .inl 4
  | some ps => .inr ps

/-- What parse hands back, and in which world. -/
def Parsed (w : World) (r : Nat ⊕ List Part) (e : Ending) (w' : World) : Prop := Below w.heap.size w w' ∧ match r with
  | .inl n => e = .returned (.tuple #[.slice none 0 0, .iface 61 (.int .i64 n)])
  | .inr ps => ∃ sv, e = .returned (.tuple #[sv, .nilIface]) ∧ w'.ownsRow w.heap.size 118 257 sv ps.length (flat ps)

set_option maxRecDepth 10000 in
set_option maxHeartbeats 1000000 in
theorem parse_any (p : ByteArray) (hz : p.size ≤ 1000) (w : World) : Calls Tryz.prog 43 #[.string p] w (Parsed w (parseR p)) := by
  by_cases h24 : 24 < p.size
  · have hR : parseR p = .inl 2 := by unfold parseR; rw [if_pos h24]
    rw [hR]
    go_enter Tryz.func43, Tryz.ntmps43
    go_wp2
    go_ret2
    exact ⟨Below.refl _ _, rfl⟩
  · by_cases h0 : p.size = 0
    · have hR : parseR p = .inl 4 := by unfold parseR; rw [if_neg h24, if_pos h0]
      rw [hR]
      have b0 : ((p.size : Int) == 0) = true := by rw [beq_iff_eq]; omega
      have H0 := hide h0
      clear h0
      go_enter Tryz.func43, Tryz.ntmps43
      go_wp2
      go_ret2
      exact ⟨Below.refl _ _, rfl⟩
    · have hR : ∀ r, partsR (p.size + 1) p 0 = r → parseR p = (match r with | none => .inl 4 | some ps => .inr ps) := by intro r hr; unfold parseR; rw [if_neg h24, if_neg h0, hr]
      have b0 : ((p.size : Int) == 0) = false := by rw [beq_eq_false_iff_ne]; omega
      have HR := hide hR
      clear hR h0
      go_enter Tryz.func43, Tryz.ntmps43
      go_wp2_with fail
      go_loopw [4, 5] (fun l at' wr => ∃ (a : Nat) (ps : List Part) (fuel : Nat), a ≤ p.size ∧ ps.length ≤ a ∧ at' = .int .i64 a ∧ p.size - a < fuel ∧ partsR (p.size + 1) p 0 = (partsR fuel p a).map (ps ++ ·) ∧ wr.ownsRow w.heap.size 118 257 l ps.length (flat ps) ∧ Below w.heap.size w wr) (fun _ at' _ => p.size - (intOf at').toNat)
      case atStart => exact ⟨0, [], p.size + 1, by omega, by simp, rfl, by omega, by simp, World.ownsRow_nil _ _ _ _, Below.refl _ _⟩
      case round =>
        obtain ⟨a, ps, fuel, ha, hps, rfl, hfuel, hpr, hown, hB⟩ := hrel
        obtain ⟨fu, rfl⟩ : ∃ fu, fuel = fu + 1 := ⟨fuel - 1, by omega⟩
        have Hpr := hide hpr
        have Hown := hide hown
        clear hpr hown
        by_cases hlt : a < p.size
        · cases hF : firstR (p.extract a p.size) with
          | none =>
            have hnone : parseR p = .inl 4 := HR.out none (by rw [Hpr.out, partsR, if_pos hlt, hF]; rfl)
            have HV := hide (show partV (firstR (p.extract a p.size)) = .tuple #[.agg (LA 257 fun _ => false), .int .i64 0] by rw [hF]; rfl)
            have HN := hide hnone
            have zp := zv_part
            clear hF hnone HR Hpr
            go_wp2_with (first
              | (go_at_call 59; refine (first_any _ (by rw [size_extract]; omega) (by rw [size_extract]; omega) _).mono ?_; rintro e W ⟨rfl, hW⟩; rw [HV.out])
              | (refine wpList_store_LA 118 257 rfl _ _ rfl W.heap.size ?_ (fun _ => false) ?_ size_part (fun _ => false) 118 ?_ ?_; (· rfl); (· rfl); (· with_reducible exact heap_alloc_new _ _)))
            go_ret2
            rw [HN.out]
            exact ⟨below_setRow ((hB.trans (hW.mono hB.size)).alloc (Nat.le_trans hB.size hW.size) _) (Nat.le_trans hB.size hW.size) _, rfl⟩
          | some x =>
            obtain ⟨f, m, n⟩ := x
            have hbd := firstR_bound (by rw [size_extract]; omega) hF
            rw [size_extract] at hbd
            have hnext : partsR (p.size + 1) p 0 = (partsR fu p (a + n)).map ((ps ++ [(f, m)]) ++ ·) := by
              rw [Hpr.out, partsR, if_pos hlt, hF]
              show Option.map _ (Option.map _ (partsR fu p (a + n))) = _
              generalize partsR fu p (a + n) = r
              cases r <;> simp
            have HX := hide hnext
            have HV := hide (show partV (firstR (p.extract a p.size)) = .tuple #[.agg (LA 257 (PF f m)), .int .i64 n] by rw [hF]; rfl)
            have zp := zv_part
            have n0 : ((n : Int) == 0) = false := by rw [beq_eq_false_iff_ne]; omega
            clear hF hnext HR Hpr
            go_wp2_with (first
              | (go_at_call 59; refine (first_any _ (by rw [size_extract]; omega) (by rw [size_extract]; omega) _).mono ?_; rintro e W ⟨rfl, hW⟩; rw [HV.out])
              | (refine wpList_store_LA 118 257 rfl _ _ rfl W.heap.size ?_ (PF f m) ?_ size_part (fun _ => false) 118 ?_ ?_; (· rfl); (· rfl); (· with_reducible exact heap_alloc_new _ _); refine wpList_forget (fun V => Below W.heap.size W V ∧ V.heap[W.heap.size]? = some (.cells (LA 257 (PF f m)) 118 (0, 0))) ⟨below_setRow ((Below.refl _ _).alloc (Nat.le_refl _) _) (Nat.le_refl _) _, heap_setRow_same _ (heap_alloc_new _ _)⟩ ?_; rintro V ⟨hV, hVp⟩)
              | (refine wpList_load_part rfl _ rfl W.heap.size ?_ (PF f m) ?_ ?_; (· rfl); (· exact hVp))
              | (refine wpList_buildSlice_part rfl _ rfl (PF f m) ?_ ?_; (· rfl))
              | (refine wpList_append_part rfl _ _ rfl w.heap.size u4 ps ?_ ?_ V.heap.size ?_ (f, m) ?_ (by omega) ?_ ?_; (· rfl); (· exact owns_later Hown.out ((hW.trans (hV.mono hW.size)).alloc (Nat.le_trans hW.size hV.size) _)); (· rfl); (· exact heap_alloc_new _ _); (· exact Nat.le_trans hB.size (Nat.le_trans hW.size (Nat.le_trans hV.size (by simp)))); intro v' w2 ho2 hg2))
            go_roundw
            case rel =>
              have hsz : w.heap.size ≤ (V.alloc (Obj.cells (LA 257 (PF f m)) 118)).heap.size := Nat.le_trans hB.size (Nat.le_trans hW.size (Nat.le_trans hV.size (by simp)))
              have hB2 : Below w.heap.size w (V.alloc (Obj.cells (LA 257 (PF f m)) 118)) := ((hB.trans (hW.mono hB.size)).trans (hV.mono (Nat.le_trans hB.size hW.size))).alloc (Nat.le_trans hB.size (Nat.le_trans hW.size hV.size)) _
              exact ⟨a + n, ps ++ [(f, m)], fu, by omega, by simp; omega, by go_num, by omega, HX.out, by simpa using ho2, hB2.grown hg2 hsz fun k hk => (Hown.out.lt k hk).1⟩
            case measure => simp [intOf]; omega
        · have hend : partsR (p.size + 1) p 0 = some ps := by rw [Hpr.out, partsR, if_neg hlt]; simp
          have HN := hide (HR.out _ hend)
          have hown := Hown.out
          clear hend HR Hpr Hown
          have HO := hide hown
          clear hown
          go_wp2_with fail
          go_ret2
          rw [HN.out]
          exact ⟨hB, _, rfl, HO.out⟩
end Go.Proofs.YtbifjokfnahiaabGreatDoor.Gl
