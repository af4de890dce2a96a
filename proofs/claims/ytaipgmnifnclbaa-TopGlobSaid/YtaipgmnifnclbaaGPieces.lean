/- The walk of the document's Pieces. -/
import Derived.Test.YtaipgmnifnclbaaGSingle
namespace Go.Proofs.Ytaipgmnifnclbaa
open Go.RowKit

/-- The pieces of a pattern: where each begins, how many bytes it has. -/
def strsOf (p : ByteArray) (cs : List (Nat × Nat)) : List Value := cs.map fun c => .string (p.extract c.1 (c.1 + c.2))
theorem strsOf_snoc (p : ByteArray) (cs : List (Nat × Nat)) (c : Nat × Nat) : strsOf p (cs ++ [c]) = strsOf p cs ++ [.string (p.extract c.1 (c.1 + c.2))] := by simp [strsOf]

/-- Piece for piece, the parts that they are. -/
def Cut (p : ByteArray) (cs : List (Nat × Nat)) (ps : List Part) : Prop := cs.length = ps.length ∧ ∀ i, i < ps.length → (cs.getD i (0, 0)).1 < p.size ∧ firstR (p.extract (cs.getD i (0, 0)).1 p.size) = some (likeAt ps i, manyAt ps i, (cs.getD i (0, 0)).2)
theorem Cut.nil (p : ByteArray) : Cut p [] [] := ⟨rfl, fun i h => by simp at h⟩
theorem Cut.snoc {p : ByteArray} {cs : List (Nat × Nat)} {ps : List Part} (h : Cut p cs ps) {a n : Nat} {f : Nat → Bool} {m : Bool} (ha : a < p.size) (hf : firstR (p.extract a p.size) = some (f, m, n)) : Cut p (cs ++ [(a, n)]) (ps ++ [(f, m)]) := by
  refine ⟨by simp [h.1], fun i hi => ?_⟩
  have hl := h.1
  simp only [List.length_append, List.length_cons, List.length_nil] at hi
  by_cases hlt : i < ps.length
  · have h1 : (cs ++ [(a, n)]).getD i (0, 0) = cs.getD i (0, 0) := by
      rw [List.getD_eq_getElem?_getD, List.getElem?_append_left (by omega), ← List.getD_eq_getElem?_getD]
    have h2 : (ps ++ [(f, m)]).getD i (fun _ => false, false) = ps.getD i (fun _ => false, false) := by
      rw [List.getD_eq_getElem?_getD, List.getElem?_append_left hlt, ← List.getD_eq_getElem?_getD]
    unfold likeAt manyAt
    rw [h1, h2]
    exact h.2 i hlt
  · have e : i = ps.length := by omega
    subst e
    have h1 : (cs ++ [(a, n)]).getD ps.length (0, 0) = (a, n) := by
      rw [List.getD_eq_getElem?_getD, List.getElem?_append_right (by omega), hl]; simp
    have h2 : (ps ++ [(f, m)]).getD ps.length (fun _ => false, false) = (f, m) := by
      rw [List.getD_eq_getElem?_getD, List.getElem?_append_right (by omega)]; simp
    unfold likeAt manyAt
    rw [h1, h2]
    exact ⟨ha, hf⟩

theorem info_str : ∃ i, Try.prog.info? 9 = some i ∧ i.zero = some (.string .empty) ∧ i.size = 1 ∧ i.bytes = 16 := by
  have hz : (Try.prog.info? 9).map (·.zero) = some (some (.string .empty)) := by kernel_rfl
  have hs : (Try.prog.info? 9).map (·.size) = some 1 := by kernel_rfl
  have hb : (Try.prog.info? 9).map (·.bytes) = some 16 := by kernel_rfl
  cases hq : Try.prog.info? 9 with
  | none => rw [hq] at hs; simp at hs
  | some i =>
    rw [hq] at hz hs hb
    simp at hz hs hb
    exact ⟨i, rfl, hz, hs, hb⟩

theorem wpList_append_str {ops : Array Oper} {rest : List Oper} {o : Oper} {a : Act} {w : World} {Q : Exit → Act → World → Prop} (hgd : o.guard = none) (s x : Operand)
    (ho : o.op = .call { callee := .builtin .append, args := #[s, x], argTypes := #[37, 37] })
    (base : Nat) (v : Value) (n : Nat) (xs : List Value) (hs : a.eval s = v) (hown : w.ownsRow base 9 1 v n xs)
    (g : Nat) (hx : a.eval x = .slice (some ⟨g, 0, none⟩) 1 1) (q : ByteArray) (hg : w.heap[g]? = some (.cells #[.string q] 9 (0, 0)))
    (hn : n ≤ 1000) (hbase : base ≤ w.heap.size)
    (h : ∀ v' w', w'.ownsRow base 9 1 v' (n + 1) (xs ++ [.string q]) → w.grownBy w' v.ownBlock → wpList Try.prog ops Q rest (a.put o.dst v') w') : wpList Try.prog ops Q (o :: rest) a w := by
  obtain ⟨i, hi, hz, hsz, hby⟩ := info_str
  refine wpList_append_own (P := Try.prog) w hgd s x 37 ho base 9 i _ 1 16 Try.underlying37 hi hz hsz hby rfl (by decide) v n xs hs hown ⟨g, 0, none⟩ 1 1 [.string q] hx rfl ?_ ?_ (by simp only [maxLen]; omega) (by omega) hbase ?_
  · intro j u hu
    have hadd : (⟨g, 0, none⟩ : Addr).add j = ⟨g, j, none⟩ := by unfold Addr.add; split <;> simp_all
    rw [hadd, cell_of_row w g j _ _ _ hg]
    simpa using hu
  · intro u hu
    simp only [List.mem_cons, List.not_mem_nil, or_false] at hu
    subst hu
    rfl
  · intro v' w' h1 h2 _
    exact h v' w' h1 h2

theorem owns_later1 {w w' : World} {base n : Nat} {v : Value} {xs : List Value} (h : w.ownsRow base 9 1 v n xs) (hb : Below w.heap.size w w') : w'.ownsRow base 9 1 v n xs := by
  refine h.kept (grown_of_below hb) ?_
  cases hv : v.ownBlock with
  | none => exact .inl rfl
  | some k => exact .inr (by simp)

/-- What Pieces hands back. -/
def Pieced (w : World) (p : ByteArray) (e : Ending) (w' : World) : Prop := Below w.heap.size w w' ∧ match partsR (p.size + 1) p 0 with
  | none => e = .returned (.tuple #[.slice none 0 0, .bool false])
  | some ps => ∃ sv cs, e = .returned (.tuple #[sv, .bool (decide (0 < ps.length))]) ∧ Cut p cs ps ∧ w'.ownsRow w.heap.size 9 1 sv ps.length (strsOf p cs)

def _root_.Go.Value.isSliceOf (v : Value) (n : Nat) : Prop := ∃ a c, v = .slice a n c
theorem _root_.Go.World.ownsRow.isSlice {w : World} {base e size n : Nat} {v : Value} {xs : List Value} (h : w.ownsRow base e size v n xs) : v.isSliceOf n := by
  rcases h.2 with ⟨rfl, rfl⟩ | ⟨g, cap, cur, rfl, _⟩
  · exact ⟨_, _, rfl⟩
  · exact ⟨_, _, rfl⟩

/-- The loop's state. -/
def PL (w : World) (p : ByteArray) (a : Nat) (l : Value) (wr : World) : Prop := ∃ (ps : List Part) (cs : List (Nat × Nat)) (fuel : Nat), ps.length ≤ a ∧ p.size - a < fuel ∧ partsR (p.size + 1) p 0 = (partsR fuel p a).map (ps ++ ·) ∧ Cut p cs ps ∧ wr.ownsRow w.heap.size 9 1 l ps.length (strsOf p cs) ∧ Below w.heap.size w wr ∧ l.isSliceOf ps.length

theorem PL.none {w : World} {p : ByteArray} {a : Nat} {l : Value} {wr : World} (h : PL w p a l wr) (hlt : a < p.size) (hf : firstR (p.extract a p.size) = none) : Pieced w p (.returned (.tuple #[.slice none 0 0, .bool false])) wr := by
  obtain ⟨ps, cs, fuel, h1, h2, h3, h4, h5, h6, _⟩ := h
  obtain ⟨fu, rfl⟩ : ∃ fu, fuel = fu + 1 := ⟨fuel - 1, by omega⟩
  have h4' : partsR (fu + 1) p a = Option.none := by rw [partsR, if_pos hlt, hf]
  rw [h4'] at h3
  refine ⟨h6, ?_⟩
  rw [h3]
  rfl
theorem PL.done {w : World} {p : ByteArray} {a : Nat} {l : Value} {wr : World} (h : PL w p a l wr) (hge : ¬ a < p.size) : ∃ n : Nat, l.isSliceOf n ∧ Pieced w p (.returned (.tuple #[l, .bool (decide (0 < n))])) wr := by
  obtain ⟨ps, cs, fuel, h1, h2, h3, h4, h5, h6, h7⟩ := h
  obtain ⟨fu, rfl⟩ : ∃ fu, fuel = fu + 1 := ⟨fuel - 1, by omega⟩
  have h4' : partsR (fu + 1) p a = some [] := by rw [partsR, if_neg hge]
  rw [h4'] at h3
  refine ⟨ps.length, h7, h6, ?_⟩
  rw [h3]
  simp only [Option.map_some, List.append_nil]
  exact ⟨l, cs, rfl, h4, h5⟩
theorem PL.own {w : World} {p : ByteArray} {a : Nat} {l : Value} {wr : World} (h : PL w p a l wr) : ∃ n xs, n ≤ a ∧ wr.ownsRow w.heap.size 9 1 l n xs ∧ Below w.heap.size w wr ∧
    ∀ (f : Nat → Bool) (m : Bool) (k : Nat), a < p.size → firstR (p.extract a p.size) = some (f, m, k) → ∀ v' w', w'.ownsRow w.heap.size 9 1 v' (n + 1) (xs ++ [.string (p.extract a (a + k))]) → Below w.heap.size w w' → PL w p (a + k) v' w' := by
  obtain ⟨ps, cs, fuel, h1, h2, h3, h4, h5, h6, h7⟩ := h
  refine ⟨ps.length, strsOf p cs, h1, h5, h6, ?_⟩
  intro f m k hlt hf v' w' ho hb
  obtain ⟨fu, rfl⟩ : ∃ fu, fuel = fu + 1 := ⟨fuel - 1, by omega⟩
  have hbd := firstR_bound (by rw [size_extract]; omega) hf
  rw [size_extract] at hbd
  refine ⟨ps ++ [(f, m)], cs ++ [(a, k)], fu, by simp; omega, by omega, ?_, h4.snoc hlt hf, ?_, hb, ?_⟩
  · rw [h3, partsR, if_pos hlt, hf]
    show Option.map _ (Option.map _ (partsR fu p (a + k))) = _
    generalize partsR fu p (a + k) = r
    cases r <;> simp
  · rw [strsOf_snoc]; simpa using ho
  · have := ho.isSlice
    simpa using this

set_option maxRecDepth 10000 in
set_option maxHeartbeats 2000000 in
theorem pieces_any (p : ByteArray) (hz : p.size ≤ 1000) (w : World) : Calls Try.prog 14 #[.string p] w (Pieced w p) := by
  go_enter Try.func14, Try.ntmps14
  go_wp2_with fail
  go_loopw [4, 5] (fun l at' wr => ∃ a : Nat, a ≤ p.size ∧ at' = .int .i64 a ∧ PL w p a l wr) (fun _ at' _ => p.size - (intOf at').toNat)
  case atStart => exact ⟨0, by omega, rfl, [], [], p.size + 1, by simp, by omega, by simp, Cut.nil p, World.ownsRow_nil _ _ _ _, Below.refl _ _, ⟨_, _, rfl⟩⟩
  case round =>
    obtain ⟨a, ha, rfl, hPL⟩ := hrel
    by_cases hlt : a < p.size
    · have ek := byteAt_eq p a hlt
      have b256 := byteAt_lt p a
      have z0 : byteAt (p.extract a p.size) 0 = byteAt p a := by rw [byteAt_extract p a 0 (by omega)]; rfl
      have hst : starsB (p.extract a p.size) = (decide (2 ≤ p.size - a) && byteAt p a == 42 && byteAt p (a + 1) == 42) := by unfold starsB; rw [size_extract, z0, byteAt_extract p a 1 (by omega)]
      by_cases h42 : byteAt p a = 42
      · have c42 : ((byteAt p a : Int) == 42) = true := by rw [beq_iff_eq]; omega
        by_cases h2 : a + 1 < p.size
        · have e1 := byteAt_eq p (a + 1) h2
          have d1 : decide ((a : Int) + 1 < (p.size : Int)) = true := by simp; omega
          by_cases h1 : byteAt p (a + 1) = 42
          · have c1 : ((byteAt p (a + 1) : Int) == 42) = true := by rw [beq_iff_eq]; omega
            have hF : firstR (p.extract a p.size) = some (notF fun _ => false, true, 2) := by unfold firstR; rw [if_pos (by rw [hst, h42, h1]; simp; omega)]
            clear hst h1 h42 z0
            obtain ⟨n, xs, hna, hown, hB, hnext⟩ := hPL.own
            have HX := hide (hnext _ _ _ hlt hF)
            have HO := hide hown
            have hbd := firstR_bound (by rw [size_extract]; omega) hF
            rw [size_extract] at hbd
            clear hF hPL hnext hown
            go_wp2_with (first | (refine wpList_append_str rfl _ _ rfl w.heap.size u4 n xs ?_ ?_ wr.heap.size ?_ (p.extract a (a + 2)) ?_ (by omega) ?_ ?_; (· rfl); (· exact owns_later1 HO.out ((Below.refl _ _).alloc (Nat.le_refl _) _)); (· rfl); (· exact heap_alloc_new _ _); (· exact Nat.le_trans hB.size (by simp)); intro v' w2 ho2 hg2))
            go_roundw
            case rel => exact ⟨a + 2, by omega, by go_num, HX.out _ _ ho2 ((hB.alloc hB.size _).grown hg2 (Nat.le_trans hB.size (by simp)) fun k hk => (HO.out.lt k hk).1)⟩
            case measure => simp [intOf]; omega
          · have c1 : ((byteAt p (a + 1) : Int) == 42) = false := by rw [beq_eq_false_iff_ne]; omega
            have hF : firstR (p.extract a p.size) = some (notF (onlyF 47), true, 1) := by unfold firstR; rw [if_neg (by rw [hst]; simp [h1]), if_pos (by rw [z0, h42])]
            clear hst h1 h42 z0
            obtain ⟨n, xs, hna, hown, hB, hnext⟩ := hPL.own
            have HX := hide (hnext _ _ _ hlt hF)
            have HO := hide hown
            have hbd := firstR_bound (by rw [size_extract]; omega) hF
            rw [size_extract] at hbd
            clear hF hPL hnext hown
            go_wp2_with (first | (refine wpList_append_str rfl _ _ rfl w.heap.size u4 n xs ?_ ?_ wr.heap.size ?_ (p.extract a (a + 1)) ?_ (by omega) ?_ ?_; (· rfl); (· exact owns_later1 HO.out ((Below.refl _ _).alloc (Nat.le_refl _) _)); (· rfl); (· exact heap_alloc_new _ _); (· exact Nat.le_trans hB.size (by simp)); intro v' w2 ho2 hg2))
            go_roundw
            case rel => exact ⟨a + 1, by omega, by go_num, HX.out _ _ ho2 ((hB.alloc hB.size _).grown hg2 (Nat.le_trans hB.size (by simp)) fun k hk => (HO.out.lt k hk).1)⟩
            case measure => simp [intOf]; omega
        · have d1 : decide ((a : Int) + 1 < (p.size : Int)) = false := by simp; omega
          have hF : firstR (p.extract a p.size) = some (notF (onlyF 47), true, 1) := by unfold firstR; rw [if_neg (by rw [hst]; simp; omega), if_pos (by rw [z0, h42])]
          clear hst h42 z0
          obtain ⟨n, xs, hna, hown, hB, hnext⟩ := hPL.own
          have HX := hide (hnext _ _ _ hlt hF)
          have HO := hide hown
          have hbd := firstR_bound (by rw [size_extract]; omega) hF
          rw [size_extract] at hbd
          clear hF hPL hnext hown
          go_wp2_with (first | (refine wpList_append_str rfl _ _ rfl w.heap.size u4 n xs ?_ ?_ wr.heap.size ?_ (p.extract a (a + 1)) ?_ (by omega) ?_ ?_; (· rfl); (· exact owns_later1 HO.out ((Below.refl _ _).alloc (Nat.le_refl _) _)); (· rfl); (· exact heap_alloc_new _ _); (· exact Nat.le_trans hB.size (by simp)); intro v' w2 ho2 hg2))
          go_roundw
          case rel => exact ⟨a + 1, by omega, by go_num, HX.out _ _ ho2 ((hB.alloc hB.size _).grown hg2 (Nat.le_trans hB.size (by simp)) fun k hk => (HO.out.lt k hk).1)⟩
          case measure => simp [intOf]; omega
      · have c42 : ((byteAt p a : Int) == 42) = false := by rw [beq_eq_false_iff_ne]; omega
        have hns : ¬ starsB (p.extract a p.size) = true := by rw [hst]; simp [h42]
        by_cases h91 : byteAt p a = 91
        · have c91 : ((byteAt p a : Int) == 91) = true := by rw [beq_iff_eq]; omega
          cases hcl : classR (p.extract a p.size) with
          | none =>
            have hF : firstR (p.extract a p.size) = none := by unfold firstR; rw [if_neg hns, z0, if_neg h42, if_neg (by omega), if_pos h91]; unfold classP; rw [hcl]; rfl
            have HV := hide (rclassV_none hcl)
            clear hst h42 h91 z0 hns hcl
            have HN := hide (hPL.none hlt hF)
            clear hF hPL
            go_wp2_with (go_at_call 19; refine (rclass_any p a hlt hz _).mono ?_; rintro e wx ⟨rfl, hwx⟩; rw [hwx, HV.out]; clear hwx wx)
            go_ret2
            exact HN.out
          | some x =>
            obtain ⟨f, k⟩ := x
            have hF : firstR (p.extract a p.size) = some (f, false, k) := by unfold firstR; rw [if_neg hns, z0, if_neg h42, if_neg (by omega), if_pos h91]; unfold classP; rw [hcl]; rfl
            have HV := hide (rclassV_some hcl)
            clear hst h42 h91 z0 hns hcl
            obtain ⟨n, xs, hna, hown, hB, hnext⟩ := hPL.own
            have HX := hide (hnext _ _ _ hlt hF)
            have HO := hide hown
            have hbd := firstR_bound (by rw [size_extract]; omega) hF
            rw [size_extract] at hbd
            clear hF hPL hnext hown
            go_wp2_with (first | (go_at_call 19; refine (rclass_any p a hlt hz _).mono ?_; rintro e wx ⟨rfl, hwx⟩; rw [hwx, HV.out]; clear hwx wx) | (refine wpList_append_str rfl _ _ rfl w.heap.size u4 n xs ?_ ?_ wr.heap.size ?_ (p.extract a (a + k)) ?_ (by omega) ?_ ?_; (· rfl); (· exact owns_later1 HO.out ((Below.refl _ _).alloc (Nat.le_refl _) _)); (· rfl); (· exact heap_alloc_new _ _); (· exact Nat.le_trans hB.size (by simp)); intro v' w2 ho2 hg2))
            go_roundw
            case rel => exact ⟨a + k, by omega, by go_num, HX.out _ _ ho2 ((hB.alloc hB.size _).grown hg2 (Nat.le_trans hB.size (by simp)) fun k hk => (HO.out.lt k hk).1)⟩
            case measure => simp [intOf]; omega
        · have c91 : ((byteAt p a : Int) == 91) = false := by rw [beq_eq_false_iff_ne]; omega
          by_cases h92 : byteAt p a = 92
          · have c92 : ((byteAt p a : Int) == 92) = true := by rw [beq_iff_eq]; omega
            have hE : firstR (p.extract a p.size) = escR (p.extract a p.size) := by unfold firstR; rw [if_neg hns, z0, if_neg h42, if_neg (by omega), if_neg h91, if_pos h92]
            unfold escR at hE
            rw [size_extract, byteAt_extract p a 1 (by omega)] at hE
            by_cases h2 : a + 1 < p.size
            · have d2 : decide ((p.size : Int) < (a : Int) + 2) = false := by simp; omega
              have e1 := byteAt_eq p (a + 1) h2
              cases hsg : signB (byteAt p (a + 1))
              · have hF : firstR (p.extract a p.size) = none := by rw [hE, if_neg (by rw [hsg]; simp)]
                clear hst h42 h91 h92 z0 hns hE
                have HN := hide (hPL.none hlt hF)
                clear hF hPL
                go_wp2_with (go_at_call 20; refine (special_any _ _).mono ?_; rintro e wx ⟨rfl, hwx⟩; rw [hwx]; clear hwx wx)
                go_ret2
                exact HN.out
              · have hF : firstR (p.extract a p.size) = some (onlyF (byteAt p (a + 1)), false, 2) := by rw [hE, if_pos ⟨by omega, hsg⟩]
                clear hst h42 h91 h92 z0 hns hE
                obtain ⟨n, xs, hna, hown, hB, hnext⟩ := hPL.own
                have HX := hide (hnext _ _ _ hlt hF)
                have HO := hide hown
                have hbd := firstR_bound (by rw [size_extract]; omega) hF
                rw [size_extract] at hbd
                clear hF hPL hnext hown
                go_wp2_with (first | (go_at_call 20; refine (special_any _ _).mono ?_; rintro e wx ⟨rfl, hwx⟩; rw [hwx]; clear hwx wx) | (refine wpList_append_str rfl _ _ rfl w.heap.size u4 n xs ?_ ?_ wr.heap.size ?_ (p.extract a (a + 2)) ?_ (by omega) ?_ ?_; (· rfl); (· exact owns_later1 HO.out ((Below.refl _ _).alloc (Nat.le_refl _) _)); (· rfl); (· exact heap_alloc_new _ _); (· exact Nat.le_trans hB.size (by simp)); intro v' w2 ho2 hg2))
                go_roundw
                case rel => exact ⟨a + 2, by omega, by go_num, HX.out _ _ ho2 ((hB.alloc hB.size _).grown hg2 (Nat.le_trans hB.size (by simp)) fun k hk => (HO.out.lt k hk).1)⟩
                case measure => simp [intOf]; omega
            · have d2 : decide ((p.size : Int) < (a : Int) + 2) = true := by simp; omega
              have hF : firstR (p.extract a p.size) = none := by rw [hE, if_neg (by omega)]
              clear hst h42 h91 h92 z0 hns hE
              have HN := hide (hPL.none hlt hF)
              clear hF hPL
              go_wp2_with fail
              go_ret2
              exact HN.out
          · have c92 : ((byteAt p a : Int) == 92) = false := by rw [beq_eq_false_iff_ne]; omega
            by_cases h63 : byteAt p a = 63
            · have c63 : ((byteAt p a : Int) == 63) = true := by rw [beq_iff_eq]; omega
              have hF : firstR (p.extract a p.size) = some (notF (onlyF 47), false, 1) := by unfold firstR; rw [if_neg hns, z0, if_neg h42, if_pos h63]
              clear hst h42 h91 h92 h63 z0 hns
              obtain ⟨n, xs, hna, hown, hB, hnext⟩ := hPL.own
              have HX := hide (hnext _ _ _ hlt hF)
              have HO := hide hown
              have hbd := firstR_bound (by rw [size_extract]; omega) hF
              rw [size_extract] at hbd
              clear hF hPL hnext hown
              go_wp2_with (first | (refine wpList_append_str rfl _ _ rfl w.heap.size u4 n xs ?_ ?_ wr.heap.size ?_ (p.extract a (a + 1)) ?_ (by omega) ?_ ?_; (· rfl); (· exact owns_later1 HO.out ((Below.refl _ _).alloc (Nat.le_refl _) _)); (· rfl); (· exact heap_alloc_new _ _); (· exact Nat.le_trans hB.size (by simp)); intro v' w2 ho2 hg2))
              go_roundw
              case rel => exact ⟨a + 1, by omega, by go_num, HX.out _ _ ho2 ((hB.alloc hB.size _).grown hg2 (Nat.le_trans hB.size (by simp)) fun k hk => (HO.out.lt k hk).1)⟩
              case measure => simp [intOf]; omega
            · have c63 : ((byteAt p a : Int) == 63) = false := by rw [beq_eq_false_iff_ne]; omega
              have hE : firstR (p.extract a p.size) = if plainB (byteAt p a) = true then some (onlyF (byteAt p a), false, 1) else none := by unfold firstR; rw [if_neg hns, z0, if_neg h42, if_neg h63, if_neg h91, if_neg h92]
              have hpl : plainB (byteAt p a) = !(decide ((byteAt p a : Int) < 33) || decide (126 < (byteAt p a : Int)) || (byteAt p a : Int) == 34 || (byteAt p a : Int) == 93) := by
                rw [Bool.eq_iff_iff]; simp [plainB, signB]; omega
              by_cases g1 : byteAt p a < 33
              · have hF : firstR (p.extract a p.size) = none := by rw [hE, if_neg (by rw [hpl]; simp; omega)]
                have x1 : decide ((byteAt p a : Int) < 33) = true := by simp; omega
                clear hst h42 h91 h92 h63 z0 hns hE hpl
                have HN := hide (hPL.none hlt hF)
                clear hF hPL
                go_wp2_with fail
                go_ret2
                exact HN.out
              · have x1 : decide ((byteAt p a : Int) < 33) = false := by simp; omega
                by_cases g2 : 126 < byteAt p a
                · have hF : firstR (p.extract a p.size) = none := by rw [hE, if_neg (by rw [hpl]; simp; omega)]
                  have x2 : decide (126 < (byteAt p a : Int)) = true := by simp; omega
                  clear hst h42 h91 h92 h63 z0 hns hE hpl
                  have HN := hide (hPL.none hlt hF)
                  clear hF hPL
                  go_wp2_with fail
                  go_ret2
                  exact HN.out
                · have x2 : decide (126 < (byteAt p a : Int)) = false := by simp; omega
                  by_cases g3 : byteAt p a = 34
                  · have hF : firstR (p.extract a p.size) = none := by rw [hE, if_neg (by rw [hpl]; simp; omega)]
                    have c34 : ((byteAt p a : Int) == 34) = true := by rw [beq_iff_eq]; omega
                    clear hst h42 h91 h92 h63 z0 hns hE hpl g3
                    have HN := hide (hPL.none hlt hF)
                    clear hF hPL
                    go_wp2_with fail
                    go_ret2
                    exact HN.out
                  · have c34 : ((byteAt p a : Int) == 34) = false := by rw [beq_eq_false_iff_ne]; omega
                    by_cases g4 : byteAt p a = 93
                    · have hF : firstR (p.extract a p.size) = none := by rw [hE, if_neg (by rw [hpl]; simp; omega)]
                      have c93 : ((byteAt p a : Int) == 93) = true := by rw [beq_iff_eq]; omega
                      clear hst h42 h91 h92 h63 z0 hns hE hpl g3 g4
                      have HN := hide (hPL.none hlt hF)
                      clear hF hPL
                      go_wp2_with fail
                      go_ret2
                      exact HN.out
                    · have hF : firstR (p.extract a p.size) = some (onlyF (byteAt p a), false, 1) := by rw [hE, if_pos (by rw [hpl]; simp; omega)]
                      have c93 : ((byteAt p a : Int) == 93) = false := by rw [beq_eq_false_iff_ne]; omega
                      clear hst h42 h91 h92 h63 z0 hns hE hpl g3 g4
                      obtain ⟨n, xs, hna, hown, hB, hnext⟩ := hPL.own
                      have HX := hide (hnext _ _ _ hlt hF)
                      have HO := hide hown
                      have hbd := firstR_bound (by rw [size_extract]; omega) hF
                      rw [size_extract] at hbd
                      clear hF hPL hnext hown
                      go_wp2_with (first | (refine wpList_append_str rfl _ _ rfl w.heap.size u4 n xs ?_ ?_ wr.heap.size ?_ (p.extract a (a + 1)) ?_ (by omega) ?_ ?_; (· rfl); (· exact owns_later1 HO.out ((Below.refl _ _).alloc (Nat.le_refl _) _)); (· rfl); (· exact heap_alloc_new _ _); (· exact Nat.le_trans hB.size (by simp)); intro v' w2 ho2 hg2))
                      go_roundw
                      case rel => exact ⟨a + 1, by omega, by go_num, HX.out _ _ ho2 ((hB.alloc hB.size _).grown hg2 (Nat.le_trans hB.size (by simp)) fun k hk => (HO.out.lt k hk).1)⟩
                      case measure => simp [intOf]; omega
    · obtain ⟨n, ⟨ad, cp, rfl⟩, hfin⟩ := hPL.done hlt
      have HN := hide hfin
      clear hfin hPL
      go_wp2_with fail
      go_ret2
      exact HN.out
end Go.Proofs.Ytaipgmnifnclbaa
