/- What the walk of the document's like wants: pieces, rows of bools of the call's own, the rows' meaning. -/
import Derived.Test.YtklibmijiecbfaaGreatK23
namespace Go.Proofs.YtklibmijiecbfaaGreat.Gl
open Go.RowKit

theorem info_bool : ∃ i, Tryz.prog.info? 4 = some i ∧ i.zero = some (.bool false) ∧ i.size = 1 ∧ i.bytes = 1 := by
 have hz : (Tryz.prog.info? 4).map (·.zero) = some (some (.bool false)) := by kernel_rfl
 have hs : (Tryz.prog.info? 4).map (·.size) = some 1 := by kernel_rfl
 have hb : (Tryz.prog.info? 4).map (·.bytes) = some 1 := by kernel_rfl
 cases hq : Tryz.prog.info? 4 with
 | none => rw [hq] at hs; simp at hs
 | some i =>
  rw [hq] at hz hs hb
  simp at hz hs hb
  exact ⟨i, rfl, hz, hs, hb⟩

theorem made_LA (n : Nat) : madeCells (Value.bool false).cells n = LA n fun _ => false := by
 apply Array.ext_getElem?
 intro i
 by_cases h : i < n
 ·
  rw [LA_get n _ i h]
  simp [madeCells, Value.cells, h, Nat.mod_one]
 ·
  have e1 : (madeCells (Value.bool false).cells n)[i]? = none := by simp [size_madeCells]; omega
  have e2 : (LA n fun _ => false)[i]? = none := by simp [LA_size]; omega
  rw [e1, e2]

theorem wpList_make_bools {ops : Array Oper} {rest : List Oper} {o : Oper} {a : Act} {w : World} {Q : Exit → Act → World → Prop} (hgd : o.guard = none) (x y : Operand) (ho : o.op = .makeSlice 220 x y) (n : Nat)
  (hx : a.eval x = .int .i64 n) (hy : a.eval y = .int .i64 n) (hn : n ≤ 10000)
  (h : wpList Tryz.prog ops Q rest (a.put o.dst (.slice (some ⟨w.heap.size, 0, none⟩) n n)) (w.alloc (.cells (LA n fun _ => false) 4))) : wpList Tryz.prog ops Q (o :: rest) a w := by
 obtain ⟨i, hi, hz, hs, hb⟩ := info_bool
 have hr := run_make (P := Tryz.prog) w 220 4 i _ Tryz.underlying220 hi hz .i64 .i64 (n : Int) (n : Int) (by omega) (by omega) (by rw [hb]; omega) (by omega)
 rw [hs, Int.toNat_natCast, Nat.mul_one, made_LA] at hr
 refine wpList_plain hgd fun _ hK => ?_
 unfold Oper.wp execOp
 simp only [ho, hx, hy, Sem.run_bind, hr, Result.andThen_ok]
 exact hK _ _ h

def pieceAt (p : ByteArray) (cs : List (Nat × Nat)) (i : Nat) : ByteArray := p.extract (cs.getD i (0, 0)).1 ((cs.getD i (0, 0)).1 + (cs.getD i (0, 0)).2)
theorem extract_twice (p : ByteArray) (a n : Nat) (h : a + n ≤ p.size) : p.extract a (a + n) = (p.extract a p.size).extract 0 n := by
 apply ByteArray.ext
 apply Array.ext'
 rw [Lib.extract_data, Lib.extract_data, Lib.extract_data]
 simp only [Nat.sub_zero, List.drop_zero, Nat.add_sub_cancel_left, List.take_take]
 congr 1
 omega

theorem piece_facts {p : ByteArray} {cs : List (Nat × Nat)} {ps : List Part} (h : Cut p cs ps) (hz : p.size ≤ 1000) {i : Nat} (hi : i < ps.length) :
  1 ≤ (pieceAt p cs i).size ∧ (pieceAt p cs i).size ≤ 1000 ∧
  (manyAt ps i = true → byteAt (pieceAt p cs i) 0 = 42 ∧ (((pieceAt p cs i).size = 2 ∧ ∀ c, likeAt ps i c = true) ∨ ((pieceAt p cs i).size ≠ 2 ∧ ∀ c, likeAt ps i c = (c != 47)))) ∧
  (manyAt ps i = false → byteAt (pieceAt p cs i) 0 ≠ 42 ∧ ∀ (c : Nat), c < 256 → ∀ w, Calls Tryz.prog 129 #[.string (pieceAt p cs i), .int .u8 c] w fun r w' => r = .returned (.bool (likeAt ps i c)) ∧ w' = w) := by
 obtain ⟨ha, hf⟩ := h.2 i hi
 generalize likeAt ps i = f at *
 generalize manyAt ps i = m at *
 unfold pieceAt
 generalize (cs.getD i (0, 0)).1 = a at *
 generalize (cs.getD i (0, 0)).2 = n at *
 have hs : 1 ≤ (p.extract a p.size).size := by rw [size_extract]; omega
 have hb := firstR_bound hs hf
 rw [size_extract] at hb
 have hsz : (p.extract a (a + n)).size = n := by simp; omega
 have hb0 : byteAt (p.extract a (a + n)) 0 = byteAt (p.extract a p.size) 0 := by
  rw [extract_twice p a n (by omega)]
  unfold byteAt
  rw [Lib.extract_data (p.extract a p.size)]
  simp [List.getD_eq_getElem?_getD, List.getElem?_take, show 0 < n by omega]
 refine ⟨by omega, by omega, ?_, ?_⟩
 ·
  intro hm
  subst hm
  rw [hb0, hsz]
  unfold firstR at hf
  split at hf
  ·
   rename_i hst
   simp only [Option.some.injEq, Prod.mk.injEq] at hf
   obtain ⟨rfl, _, rfl⟩ := hf
   simp only [starsB, Bool.and_eq_true, beq_iff_eq] at hst
   exact ⟨hst.1.2, .inl ⟨rfl, fun c => rfl⟩⟩
  ·
   split at hf
   ·
    rename_i h42
    simp only [Option.some.injEq, Prod.mk.injEq] at hf
    obtain ⟨rfl, _, rfl⟩ := hf
    refine ⟨h42, .inr ⟨by omega, fun c => ?_⟩⟩
    rw [Bool.eq_iff_iff]; simp [notF, onlyF, upd]
   ·
    exfalso
    split at hf
    ·
     simp at hf
    ·
     split at hf
     ·
      unfold classP at hf
      cases hc : classR (p.extract a p.size) <;> simp [hc] at hf
     ·
      split at hf
      ·
       unfold escR at hf
       split at hf <;> simp at hf
      ·
       split at hf <;> simp at hf
 ·
  intro hm
  subst hm
  rw [hb0]
  constructor
  ·
   intro h42
   unfold firstR at hf
   rw [if_pos h42] at hf
   split at hf <;> simp at hf
  ·
   intro c hc w
   exact single_any (p.extract a p.size) _ c n f hc hs (by rw [size_extract]; omega) hf (extract_twice p a n (by omega)) w

def LW (w : World) (L g g2 : Nat) (r h : Nat → Bool) (W : World) : Prop := Below w.heap.size w W ∧ w.heap.size ≤ g ∧ g < g2 ∧ W.heap[g]? = some (.cells (LA (L + 1) r) 4 (0, 0)) ∧ W.heap[g2]? = some (.cells (LA (L + 1) h) 4 (0, 0))
theorem LW.drewN {w : World} {L g g2 : Nat} {r h : Nat → Bool} {W : World} (x : LW w L g g2 r h W) (n : Nat) : LW w L g g2 r h (W.drewN n) := ⟨below_drewN' x.1 n, x.2.1, x.2.2.1, x.2.2.2.1, x.2.2.2.2⟩
theorem LW.set {w : World} {L g g2 : Nat} {r h : Nat → Bool} {W : World} (x : LW w L g g2 r h W) (i : Nat) (b : Bool) : LW w L g g2 r (upd h i b) (W.setCell ⟨g2, i, none⟩ (.bool b)) := by
 obtain ⟨h1, h2, h3, h4, h5⟩ := x
 refine ⟨h1.setCell (p := ⟨g2, i, none⟩) (show w.heap.size ≤ g2 by omega) _, h2, h3, ?_, ?_⟩
 ·
  rw [heap_setCell_other _ _ _ _ (show g ≠ g2 by omega)]; exact h4
 ·
  rw [heap_setCell_same W g2 i _ _ _ h5, LA_set]
theorem LW.cell {w : World} {L g g2 : Nat} {r h : Nat → Bool} {W : World} (x : LW w L g g2 r h W) (i : Nat) (hi : i ≤ L) : W.cell? ⟨g, i, none⟩ = some (.bool (r i)) := by
 rw [cell_of_row _ _ i _ _ _ x.2.2.2.1, LA_get _ _ i (by omega)]
theorem LW.cell2 {w : World} {L g g2 : Nat} {r h : Nat → Bool} {W : World} (x : LW w L g g2 r h W) (i : Nat) (hi : i ≤ L) : W.cell? ⟨g2, i, none⟩ = some (.bool (h i)) := by
 rw [cell_of_row _ _ i _ _ _ x.2.2.2.2, LA_get _ _ i (by omega)]
theorem LW.frozen2 {w : World} {L g g2 : Nat} {r h : Nat → Bool} {W : World} (x : LW w L g g2 r h W) (i : Nat) : W.frozen? ⟨g2, i, none⟩ = false := frozen_of_row _ _ i _ _ x.2.2.2.2

def MidOne (f r : Nat → Bool) (s : ByteArray) (i x : Nat) : Prop := ∃ k, k < i ∧ k < s.size ∧ r k = true ∧ f (byteAt s k) = true ∧ x = k + 1
def MidMany (f r : Nat → Bool) (s : ByteArray) (i x : Nat) : Prop := ∃ k, k < i ∧ k ≤ x ∧ r k = true ∧ ∀ y, k ≤ y → y < x → f (byteAt s y) = true

theorem midOne_skip {f r : Nat → Bool} {s : ByteArray} {i x : Nat} (h : r i = false ∨ ¬ i < s.size ∨ f (byteAt s i) = false) : MidOne f r s (i + 1) x ↔ MidOne f r s i x := by
 constructor
 ·
  rintro ⟨k, a, b, c, d, e⟩
  refine ⟨k, ?_, b, c, d, e⟩
  by_cases hk : k = i
  ·
   subst hk
   rcases h with h | h | h
   ·
    rw [h] at c; simp at c
   ·
    exact absurd b h
   ·
    rw [h] at d; simp at d
  ·
   omega
 ·
  rintro ⟨k, a, r⟩
  exact ⟨k, by omega, r⟩
theorem midOne_add {f r : Nat → Bool} {s : ByteArray} {i x : Nat} (h1 : r i = true) (h2 : i < s.size) (h3 : f (byteAt s i) = true) : MidOne f r s (i + 1) x ↔ (x = i + 1 ∨ MidOne f r s i x) := by
 constructor
 ·
  rintro ⟨k, a, b, c, d, e⟩
  by_cases hk : k = i
  ·
   subst hk; exact .inl e
  ·
   exact .inr ⟨k, by omega, b, c, d, e⟩
 ·
  rintro (rfl | ⟨k, a, r⟩)
  ·
   exact ⟨i, by omega, h2, h1, h3, rfl⟩
  ·
   exact ⟨k, by omega, r⟩
theorem midMany_skip {f r : Nat → Bool} {s : ByteArray} {i x : Nat} (h : r i = false) : MidMany f r s (i + 1) x ↔ MidMany f r s i x := by
 constructor
 ·
  rintro ⟨k, a, b, c, d⟩
  refine ⟨k, ?_, b, c, d⟩
  by_cases hk : k = i
  ·
   subst hk; rw [h] at c; simp at c
  ·
   omega
 ·
  rintro ⟨k, a, r⟩
  exact ⟨k, by omega, r⟩
theorem midMany_add {f r : Nat → Bool} {s : ByteArray} {i j x : Nat} (hij : i ≤ j) (h1 : r i = true) (h2 : ∀ y, i ≤ y → y < j → f (byteAt s y) = true) (h3 : j = s.size ∨ f (byteAt s j) = false) (hx : x ≤ s.size) : MidMany f r s (i + 1) x ↔ (MidMany f r s i x ∨ (i ≤ x ∧ x ≤ j)) := by
 constructor
 ·
  rintro ⟨k, a, b, c, d⟩
  by_cases hk : k = i
  ·
   subst hk
   refine .inr ⟨b, ?_⟩
   by_cases hj : x ≤ j
   ·
    exact hj
   ·
    exfalso
    rcases h3 with h3 | h3
    ·
     omega
    ·
     have := d j hij (by omega)
     rw [h3] at this
     simp at this
  ·
   exact .inl ⟨k, by omega, b, c, d⟩
 ·
  rintro (⟨k, a, r⟩ | ⟨a, b⟩)
  ·
   exact ⟨k, by omega, r⟩
  ·
   exact ⟨i, by omega, a, h1, fun y c d => h2 y c (by omega)⟩

theorem reach_of_one {ps : List Part} {s : ByteArray} {k x : Nat} (hm : manyAt ps k = false) (hx : x ≤ s.size) : reach ps s (k + 1) x = true ↔ MidOne (likeAt ps k) (reach ps s k) s (s.size + 1) x := by
 show rowOf _ _ _ _ _ = true ↔ _
 rw [hm, rowOf_one]
 constructor
 ·
  rintro ⟨i, a, b, c⟩
  exact ⟨i, by omega, by omega, a, b, c⟩
 ·
  rintro ⟨i, _, _, a, b, c⟩
  exact ⟨i, a, b, c⟩
theorem reach_of_many {ps : List Part} {s : ByteArray} {k x : Nat} (hm : manyAt ps k = true) (hx : x ≤ s.size) : reach ps s (k + 1) x = true ↔ MidMany (likeAt ps k) (reach ps s k) s (s.size + 1) x := by
 show rowOf _ _ _ _ _ = true ↔ _
 rw [hm, rowOf_many]
 constructor
 ·
  rintro ⟨i, a, b, c⟩
  exact ⟨i, by omega, a, b, c⟩
 ·
  rintro ⟨i, _, a, b, c⟩
  exact ⟨i, a, b, c⟩
end Go.Proofs.YtklibmijiecbfaaGreat.Gl

/- The walk of the document's like. -/
namespace Go.Proofs.YtklibmijiecbfaaGreat.Gl
open Go.RowKit

theorem LW.start {w W : World} {L g : Nat} {r : Nat → Bool} (h1 : Below w.heap.size w W) (h2 : w.heap.size ≤ g) (h3 : W.heap[g]? = some (.cells (LA (L + 1) r) 4 (0, 0))) : LW w L g W.heap.size r (fun _ => false) (W.alloc (.cells (LA (L + 1) fun _ => false) 4)) := by
 have hlt : g < W.heap.size := (Array.getElem?_eq_some_iff.1 h3).1
 exact ⟨h1.alloc h1.size _, h2, hlt, (Below.heap_alloc _ _ _ hlt).trans h3, heap_alloc_new _ _⟩

theorem quiet_plain {P : Program} {f : FuncId} {args : Array Value} {w : World} {n : Nat} {v : Value}
  (h : Calls P f args (w.drewN n) fun e w' => e = .returned v ∧ w' = w.drewN n) : Calls P f args (w.drewN n) fun e w'' => e = .returned v ∧ ∃ m, w'' = w.drewN m :=
 h.mono fun _ _ ⟨he, hm⟩ => ⟨he, n, hm⟩

def LO (w : World) (L g : Nat) (r : Nat → Bool) (W : World) : Prop := Below w.heap.size w W ∧ w.heap.size ≤ g ∧ W.heap[g]? = some (.cells (LA (L + 1) r) 4 (0, 0))
theorem LW.next {w W : World} {L g g2 : Nat} {r h r' : Nat → Bool} (x : LW w L g g2 r h W) (e : ∀ i, i ≤ L → (h i = true ↔ r' i = true)) : LO w L g2 r' W := by
 refine ⟨x.1, by have := x.2.1; have := x.2.2.1; omega, ?_⟩
 rw [x.2.2.2.2, LA_congr (L + 1) h r' (fun i hi => by rw [Bool.eq_iff_iff]; exact e i (by omega))]

set_option maxRecDepth 10000 in
set_option maxHeartbeats 2000000 in
theorem like_any (p s : ByteArray) (cs : List (Nat × Nat)) (ps : List Part) (b cap : Nat) (hz : p.size ≤ 1000) (hs : s.size ≤ 1000) (hcut : Cut p cs ps) (hps : ps.length ≤ 1000) (w : World) (hb : b < w.heap.size)
  (hl : ∀ i, i < ps.length → w.cell? ⟨b, i, none⟩ = some (.string (pieceAt p cs i))) :
  Calls Tryz.prog 118 #[.slice (some ⟨b, 0, none⟩) ps.length cap, .string s] w fun e w' => e = .returned (.bool (reach ps s ps.length s.size)) ∧ Below w.heap.size w w' := by
 have Hl := hide hl
 have Hcut := hide hcut
 clear hl hcut
 have h00 := LA_get (s.size + 1) (fun _ => false) 0 (by omega)
 go_enter Tryz.func118, Tryz.ntmps118
 go_wp2_with (refine wpList_make_bools rfl _ _ rfl (s.size + 1) ?_ ?_ (by omega) ?_; (· rfl); (· rfl))
 refine wp_forget (LO w s.size w.heap.size (reach ps s 0)) ⟨(Below.refl _ _).alloc (Nat.le_refl _) _, Nat.le_refl _, by
  rw [heap_alloc_new, LA_set, LA_congr (s.size + 1) (upd (fun _ => false) 0 true) (reach ps s 0) (fun i _ => by rw [Bool.eq_iff_iff]; simp [upd, reach])]⟩ ?_
 rintro V0 hV0
 clear h00
 go_loopw [5, 6] (fun at' i w' => ∃ k g : Nat, k ≤ ps.length ∧ at' = .slice (some ⟨g, 0, none⟩) (s.size + 1) (s.size + 1) ∧ i = .int .i64 k ∧ LO w s.size g (reach ps s k) w') (fun _ i _ => ps.length - (intOf i).toNat)
 case atStart => exact ⟨0, w.heap.size, by omega, rfl, rfl, hV0⟩
 case round =>
  obtain ⟨k, g, hk, rfl, rfl, hLO⟩ := hrel
  clear hV0
  by_cases hlt : k < ps.length
  ·
   obtain ⟨q1, q2, qm, qo⟩ := piece_facts Hcut.out hz hlt
   have hq := Hl.out k hlt
   generalize pieceAt p cs k = q at *
   have e0 := byteAt_eq q 0 (by omega)
   have HLO := hide hLO
   clear hLO
   cases hm : manyAt ps k
   ·
    obtain ⟨qn, qs⟩ := qo hm
    have HS := hide qs
    have bn : ((byteAt q 0 : Int) != 42) = true := by rw [bne_iff_ne]; omega
    clear qm qo qs qn
    go_wp2_with (refine wpList_make_bools rfl _ _ rfl (s.size + 1) ?_ ?_ (by omega) ?_; (· rfl); (· rfl))
    refine wp_forget (LW w s.size g wr.heap.size (reach ps s k) fun _ => false) (LW.start HLO.out.1 HLO.out.2.1 HLO.out.2.2) ?_
    generalize wr.heap.size = g2
    rintro V1 hV1
    go_loopw [8] (fun i w' => ∃ (m : Nat) (h : Nat → Bool), m ≤ s.size + 1 ∧ i = .int .i64 m ∧ LW w s.size g g2 (reach ps s k) h w' ∧ ∀ x, x ≤ s.size → (h x = true ↔ MidOne (likeAt ps k) (reach ps s k) s m x)) (fun i _ => s.size + 1 - (intOf i).toNat)
    case atStart => exact ⟨0, _, by omega, rfl, hV1, fun x _ => by simp [MidOne]⟩
    case round =>
     obtain ⟨m, h, hm1, rfl, hLW, hsp⟩ := hrel
     have HSP := hide hsp
     have HLW := hide hLW
     clear hV1 hsp
     by_cases hml : m ≤ s.size
     ·
      have c1 := hLW.cell m hml
      have hqb := (hLW.1.cell (p := ⟨b, k, none⟩) hb).trans hq
      clear hLW
      cases hr : reach ps s k m
      ·
       rw [hr] at c1
       go_wp2_with fail
       go_roundw
       case rel => exact ⟨m + 1, h, by omega, by go_num, HLW.out, fun x hx => (HSP.out x hx).trans (midOne_skip (.inl hr)).symm⟩
       case measure => simp [intOf]; omega
      ·
       rw [hr] at c1
       by_cases hms : m < s.size
       ·
        have em := byteAt_eq s m hms
        have dm : decide ((m : Int) < (s.size : Int)) = true := by simp; omega
        have bl := byteAt_lt s m
        cases hlk : likeAt ps k (byteAt s m)
        ·
         go_wp2_with fail
         go_quiet ((go_at_call 129; exact quiet_plain (HS.out _ bl _)))
         rw [hlk]
         go_wp2_with fail
         go_roundw
         case rel => exact ⟨m + 1, h, by omega, by go_num, HLW.out.drewN _, fun x hx => (HSP.out x hx).trans (midOne_skip (.inr (.inr hlk))).symm⟩
         case measure => simp [intOf]; omega
        ·
         have c2 := HLW.out.cell2 (m + 1) (by omega)
         have f2 := HLW.out.frozen2 (m + 1)
         go_wp2_with fail
         go_quiet ((go_at_call 129; exact quiet_plain (HS.out _ bl _)))
         rw [hlk]
         go_wp2_with fail
         go_roundw
         case rel => exact ⟨m + 1, upd h (m + 1) true, by omega, by go_num, (HLW.out.drewN _).set _ _, fun x hx => by
          rw [midOne_add hr hms hlk, ← HSP.out x hx]
          by_cases e : x = m + 1
          ·
           simp [upd, e]
          ·
           simp [upd, e]⟩
         case measure => simp [intOf]; omega
       ·
        have dm : decide ((m : Int) < (s.size : Int)) = false := by simp; omega
        go_wp2_with fail
        go_quiet (fail)
        go_wp2_with fail
        go_roundw
        case rel => exact ⟨m + 1, h, by omega, by go_num, HLW.out.drewN _, fun x hx => (HSP.out x hx).trans (midOne_skip (.inr (.inl hms))).symm⟩
        case measure => simp [intOf]; omega
     ·
      have e : m = s.size + 1 := by omega
      have He := hide e
      clear e hLW
      go_wp2_with fail
      go_roundw
      case rel => exact ⟨k + 1, g2, by omega, rfl, by go_num, HLW.out.next fun x hx => by rw [HSP.out x hx, He.out]; exact (reach_of_one hm hx).symm⟩
      case measure => simp [intOf]; omega
   ·
    obtain ⟨qn, qs⟩ := qm hm
    have Hq2 := hide qs
    have bn : ((byteAt q 0 : Int) != 42) = false := by rw [bne_eq_false_iff_eq]; omega
    clear qm qo qs qn
    go_wp2_with (refine wpList_make_bools rfl _ _ rfl (s.size + 1) ?_ ?_ (by omega) ?_; (· rfl); (· rfl))
    refine wp_forget (LW w s.size g wr.heap.size (reach ps s k) fun _ => false) (LW.start HLO.out.1 HLO.out.2.1 HLO.out.2.2) ?_
    generalize wr.heap.size = g2
    rintro V1 hV1
    go_loopw [8] (fun i w' => ∃ (m : Nat) (h : Nat → Bool), m ≤ s.size + 1 ∧ i = .int .i64 m ∧ LW w s.size g g2 (reach ps s k) h w' ∧ ∀ x, x ≤ s.size → (h x = true ↔ MidMany (likeAt ps k) (reach ps s k) s m x)) (fun i _ => s.size + 1 - (intOf i).toNat)
    case atStart => exact ⟨0, _, by omega, rfl, hV1, fun x _ => by simp [MidMany]⟩
    case round =>
     obtain ⟨m, h, hm1, rfl, hLW, hsp⟩ := hrel
     have HSP := hide hsp
     have HLW := hide hLW
     clear hV1 hsp
     by_cases hml : m ≤ s.size
     ·
      have c1 := hLW.cell m hml
      have hqb := (hLW.1.cell (p := ⟨b, k, none⟩) hb).trans hq
      clear hLW
      cases hr : reach ps s k m
      ·
       rw [hr] at c1
       go_wp2_with fail
       go_roundw
       case rel => exact ⟨m + 1, h, by omega, by go_num, HLW.out, fun x hx => (HSP.out x hx).trans (midMany_skip hr).symm⟩
       case measure => simp [intOf]; omega
      ·
       rw [hr] at c1
       have c3 := HLW.out.cell2 m hml
       have f3 := HLW.out.frozen2 m
       go_wp2_with fail
       go_loopw [9] (fun j w' => ∃ (y : Nat) (h' : Nat → Bool), m ≤ y ∧ y ≤ s.size ∧ j = .int .i64 y ∧ LW w s.size g g2 (reach ps s k) h' w' ∧ (∀ x, x ≤ s.size → (h' x = true ↔ h x = true ∨ (m ≤ x ∧ x ≤ y))) ∧ ∀ z, m ≤ z → z < y → likeAt ps k (byteAt s z) = true) (fun j _ => s.size - (intOf j).toNat)
       case atStart => exact ⟨m, upd h m true, by omega, by omega, rfl, HLW.out.set _ _, fun x hx => by
        by_cases e : x = m
        ·
         simp [upd, e]
        ·
         have : ¬ (m ≤ x ∧ x ≤ m) := by omega
         simp [upd, e, this], fun z a b => by omega⟩
       case round =>
        obtain ⟨y, h', hy1, hy2, rfl, hLW', hsp', hall⟩ := hrel
        have HLW' := hide hLW'
        have HSP' := hide hsp'
        have HALL := hide hall
        have hqb' := (hLW'.1.cell (p := ⟨b, k, none⟩) hb).trans hq
        clear hLW' hsp' hall
        by_cases hys : y < s.size
        ·
         have ey := byteAt_eq s y hys
         have dy : decide ((y : Int) < (s.size : Int)) = true := by simp; omega
         have c2 := HLW'.out.cell2 (y + 1) (by omega)
         have f2 := HLW'.out.frozen2 (y + 1)
         have step : likeAt ps k (byteAt s y) = true → ∀ W, LW w s.size g g2 (reach ps s k) (upd h' (y + 1) true) W → ∃ (y' : Nat) (h'' : Nat → Bool), m ≤ y' ∧ y' ≤ s.size ∧ Value.int .i64 ((y : Int) + 1) = .int .i64 y' ∧ LW w s.size g g2 (reach ps s k) h'' W ∧ (∀ x, x ≤ s.size → (h'' x = true ↔ h x = true ∨ (m ≤ x ∧ x ≤ y'))) ∧ ∀ z, m ≤ z → z < y' → likeAt ps k (byteAt s z) = true := by
          intro hk1 W hW
          refine ⟨y + 1, upd h' (y + 1) true, by omega, by omega, by go_num, hW, fun x hx => ?_, fun z a c => ?_⟩
          ·
           by_cases e : x = y + 1
           ·
            have : m ≤ x ∧ x ≤ y + 1 := by omega
            simp [upd, e]; omega
           ·
            have h1 : (m ≤ x ∧ x ≤ y + 1) ↔ (m ≤ x ∧ x ≤ y) := by omega
            rw [h1, ← HSP'.out x hx]
            simp [upd, e]
          ·
           by_cases e : z = y
           ·
            subst e; exact hk1
           ·
            exact HALL.out z a (by omega)
         have HST := hide step
         clear step
         have stop : likeAt ps k (byteAt s y) = false → ∃ (m' : Nat) (h0 : Nat → Bool), m' ≤ s.size + 1 ∧ Value.int .i64 ((m : Int) + 1) = .int .i64 m' ∧ LW w s.size g g2 (reach ps s k) h0 wr ∧ ∀ x, x ≤ s.size → (h0 x = true ↔ MidMany (likeAt ps k) (reach ps s k) s m' x) := by
          intro hk0
          refine ⟨m + 1, h', by omega, by go_num, HLW'.out, fun x hx => ?_⟩
          rw [midMany_add hy1 hr HALL.out (.inr hk0) hx, ← HSP.out x hx]
          exact HSP'.out x hx
         have HSO := hide stop
         clear stop
         rcases Hq2.out with ⟨z2, hc2⟩ | ⟨z2, hc2⟩
         ·
          have b2 : ((q.size : Int) == 2) = true := by rw [beq_iff_eq]; omega
          have HT := hide (hc2 (byteAt s y))
          clear z2 hc2
          go_wp2_with fail
          go_roundw
          case rel => exact HST.out HT.out _ (HLW'.out.set _ _)
          case measure => simp [intOf]; omega
         ·
          have b2 : ((q.size : Int) == 2) = false := by rw [beq_eq_false_iff_ne]; omega
          have HT := hide (hc2 (byteAt s y))
          clear z2 hc2
          by_cases h47 : byteAt s y = 47
          ·
           have b47 : ((byteAt s y : Int) != 47) = false := by rw [bne_eq_false_iff_eq]; omega
           have HF := hide (show likeAt ps k (byteAt s y) = false by rw [HT.out, h47]; rfl)
           clear h47
           go_wp2_with fail
           go_roundw
           case rel => exact HSO.out HF.out
           case measure => simp [intOf]; omega
          ·
           have b47 : ((byteAt s y : Int) != 47) = true := by rw [bne_iff_ne]; omega
           have HF := hide (show likeAt ps k (byteAt s y) = true by rw [HT.out]; simp [h47])
           clear h47
           go_wp2_with fail
           go_roundw
           case rel => exact HST.out HF.out _ (HLW'.out.set _ _)
           case measure => simp [intOf]; omega
        ·
         have dy : decide ((y : Int) < (s.size : Int)) = false := by simp; omega
         have ey : y = s.size := by omega
         have HE := hide ey
         clear ey
         go_wp2_with fail
         go_roundw
         case rel => exact ⟨m + 1, h', by omega, by go_num, HLW'.out, fun x hx => by rw [midMany_add hy1 hr HALL.out (.inl HE.out) hx, ← HSP.out x hx]; exact HSP'.out x hx⟩
         case measure => simp [intOf]; omega
     ·
      have e : m = s.size + 1 := by omega
      have He := hide e
      clear e hLW
      go_wp2_with fail
      go_roundw
      case rel => exact ⟨k + 1, g2, by omega, rfl, by go_num, HLW.out.next fun x hx => by rw [HSP.out x hx, He.out]; exact (reach_of_many hm hx).symm⟩
      case measure => simp [intOf]; omega
  ·
   have e : k = ps.length := by omega
   subst e
   have hc := cell_of_row wr g s.size _ _ _ hLO.2.2
   rw [LA_get _ _ _ (by omega)] at hc
   have HB := hide hLO.1
   clear hLO
   go_wp2_with fail
   go_ret
   exact ⟨rfl, HB.out⟩
end Go.Proofs.YtklibmijiecbfaaGreat.Gl

/- The walks of the document's GlobFault and Match, of likes, and of the law GlobSays. -/
namespace Go.Proofs.YtklibmijiecbfaaGreat.Gl
open Go.RowKit

def faultR (p : ByteArray) : Nat := match parseR p with
 | .inl n => n
 | .inr _ => 0

theorem parse_err {p : ByteArray} {n : Nat} (h : parseR p = .inl n) : 0 < n := by
 unfold parseR at h
 split at h
 ·
  simp only [Sum.inl.injEq] at h; omega
 ·
  split at h
  ·
   simp only [Sum.inl.injEq] at h; omega
  ·
   split at h
   ·
    simp only [Sum.inl.injEq] at h; omega
   ·
    simp at h
theorem faultR_long {p : ByteArray} (h : 24 < p.size) : faultR p = 2 := by unfold faultR parseR; rw [if_pos h]
theorem faultR_none {p : ByteArray} (h : ¬ 24 < p.size) (hn : partsR (p.size + 1) p 0 = none) : faultR p = 4 := by
 unfold faultR parseR; rw [if_neg h, hn]
 split <;> rename_i hh <;> split at hh <;> simp_all
theorem faultR_some {p : ByteArray} {ps : List Part} (h : ¬ 24 < p.size) (hn : partsR (p.size + 1) p 0 = some ps) : faultR p = if 0 < ps.length then 0 else 4 := by
 by_cases h0 : p.size = 0
 ·
  have hl := partsR_length _ _ _ _ hn
  have : parseR p = .inl 4 := by unfold parseR; rw [if_neg h, if_pos h0]
  unfold faultR
  rw [this, if_neg (by omega)]
 ·
  have : parseR p = .inr ps := by unfold parseR; rw [if_neg h, if_neg h0, hn]
  have hp := partsR_pos this
  unfold faultR
  rw [this, if_pos (List.length_pos_iff.2 hp.1)]

theorem globFault_any (p : ByteArray) (hz : p.size ≤ 1000) (w : World) :
  Calls Tryz.prog 45 #[.string p] w fun e w' => e = .returned (.int .i64 (faultR p)) ∧ Below w.heap.size w w' := by
 by_cases h24 : 24 < p.size
 ·
  rw [faultR_long h24]
  go_enter Tryz.func45, Tryz.ntmps45
  go_wp2
  go_ret
  exact ⟨rfl, Below.refl _ _⟩
 ·
  cases hq : partsR (p.size + 1) p 0 with
  | none =>
   have HQ := hide hq
   have HF := hide (faultR_none h24 hq)
   clear hq
   go_enter Tryz.func45, Tryz.ntmps45
   go_wp2_with (go_at_call 77; refine (pieces_any p hz _).mono ?_; unfold Pieced; rw [HQ.out]; rintro e W ⟨hW, rfl⟩)
   go_ret
   exact ⟨ret_int (by rw [HF.out]; rfl), hW⟩
  | some ps =>
   have HQ := hide hq
   have HF := hide (faultR_some h24 hq)
   clear hq
   by_cases hl : 0 < ps.length
   ·
    have hd : decide (0 < ps.length) = true := by simpa using hl
    go_enter Tryz.func45, Tryz.ntmps45
    go_wp2_with (go_at_call 77; refine (pieces_any p hz _).mono ?_; unfold Pieced; rw [HQ.out]; rintro e W ⟨hW, sv, cs, rfl, hcut, hown⟩; rw [hd])
    go_ret
    exact ⟨ret_int (by rw [HF.out, if_pos hl]; rfl), hW⟩
   ·
    have hd : decide (0 < ps.length) = false := by simpa using hl
    go_enter Tryz.func45, Tryz.ntmps45
    go_wp2_with (go_at_call 77; refine (pieces_any p hz _).mono ?_; unfold Pieced; rw [HQ.out]; rintro e W ⟨hW, sv, cs, rfl, hcut, hown⟩; rw [hd])
    go_ret
    exact ⟨ret_int (by rw [HF.out, if_neg hl]; rfl), hW⟩

theorem strs_cells {w : World} {base : Nat} {sv : Value} {p : ByteArray} {cs : List (Nat × Nat)} {ps : List Part} (hcut : Cut p cs ps) (h : w.ownsRow base 9 1 sv ps.length (strsOf p cs)) (hne : ps ≠ []) :
  ∃ b cap, sv = .slice (some ⟨b, 0, none⟩) ps.length cap ∧ b < w.heap.size ∧ ∀ i, i < ps.length → w.cell? ⟨b, i, none⟩ = some (.string (pieceAt p cs i)) := by
 have hn : ps.length ≠ 0 := by simpa using hne
 rcases h.2 with ⟨_, h0⟩ | ⟨g, cap, cur, rfl, hb, hg, _⟩
 ·
  exact absurd h0 hn
 ·
  refine ⟨g, cap, rfl, (Array.getElem?_eq_some_iff.1 hg).1, fun i hi => ?_⟩
  have hl : i < cs.length := by rw [hcut.1]; exact hi
  have := h.cells (g := g) rfl i (.string (pieceAt p cs i)) (by
   unfold strsOf pieceAt
   rw [List.getElem?_map, List.getD_eq_getElem?_getD, List.getElem?_eq_getElem hl]
   rfl)
  have hadd : (⟨g, 0, none⟩ : Addr).add i = ⟨g, i, none⟩ := by unfold Addr.add; split <;> simp_all
  rwa [hadd] at this

theorem rmatch_any (p s : ByteArray) (hz : p.size ≤ 1000) (hs : s.size ≤ 1000) (w : World) :
  Calls Tryz.prog 97 #[.string p, .string s] w fun e w' => e = .returned (.bool (matchR p s)) ∧ Below w.heap.size w w' := by
 cases hP : parseR p with
 | inl n =>
  have hn : 0 < faultR p := by
   have h := parse_err hP
   unfold faultR
   rw [hP]
   exact h
  have HM := hide (show matchR p s = false by unfold matchR; rw [hP])
  clear hP
  go_enter Tryz.func97, Tryz.ntmps97
  go_wp2_with (go_at_call 45; refine (globFault_any p hz _).mono ?_; rintro e W ⟨rfl, hW⟩)
  go_ret
  exact ⟨ret_bool HM.out.symm, hW⟩
 | inr ps =>
  have h0 : faultR p = 0 := by unfold faultR; rw [hP]
  obtain ⟨hne, h24⟩ := partsR_pos hP
  have hq : partsR (p.size + 1) p 0 = some ps := by
   unfold parseR at hP
   split at hP
   ·
    simp at hP
   ·
    split at hP
    ·
     simp at hP
    ·
     split at hP
     ·
      simp at hP
     ·
      rename_i hh; simp only [Sum.inr.injEq] at hP; rw [hh, hP]
  have HM := hide (show matchR p s = reach ps s ps.length s.size by unfold matchR; rw [hP]; exact runTo_reach ps s)
  have HQ := hide hq
  have H0 := hide h0
  clear hP hq h0
  go_enter Tryz.func97, Tryz.ntmps97
  go_wp2_with (first
   | (go_at_call 45; refine (globFault_any p hz _).mono ?_; rw [H0.out]; rintro e W ⟨rfl, hW⟩)
   | (go_at_call 77; refine (pieces_any p hz _).mono ?_; unfold Pieced; rw [HQ.out]; rintro e W2 ⟨hW2, sv, cs, rfl, hcut, hown⟩; obtain ⟨b, cap, rfl, hb, hcell⟩ := strs_cells hcut hown hne)
   | (go_at_call 118; refine (like_any p s cs ps b cap hz hs hcut (by omega) _ hb hcell).mono ?_; rintro e W3 ⟨rfl, hW3⟩))
  go_ret
  exact ⟨ret_bool HM.out.symm, (hW.trans (hW2.mono hW.size)).trans (hW3.mono (Nat.le_trans hW.size hW2.size))⟩

end Go.Proofs.YtklibmijiecbfaaGreat.Gl
