/- A program of one's own memory, with a mark behind; what is written is read. -/
import Derived.Test.YtlpcjonklfnejaaBReads
import Derived.Laws.AppendOwnNone
namespace Go.Proofs.Ytlpcjonklfnejaa
open Go.RowKit

theorem flatI_one (M : Nat → IN) : ∀ n, ∀ u ∈ flatI M n, u.oneCell' = true
  | 0, u, h => by cases h
  | n + 1, u, h => by
    rw [flatI, List.mem_append] at h
    rcases h with h | h
    · exact flatI_one M n u h
    · simp only [List.mem_cons, List.not_mem_nil, or_false] at h
      rcases h with rfl | rfl | rfl | rfl <;> rfl
theorem add_at (b off j : Nat) : (⟨b, off, none⟩ : Addr).add j = ⟨b, off + j, none⟩ := by unfold Addr.add; split <;> simp_all
theorem flatI_cells {oa : Option Addr} {n : Nat} {L : Nat → IN} {W : World} (h : IsProg oa n L W) {ad : Addr} (ha : oa = some ad) : ∀ j u, (flatI L n)[j]? = some u → W.cell? (ad.add j) = some u := fun j u hu => by
  have hj : j < n * 4 := by rw [← flatI_len L n]; exact (List.getElem?_eq_some_iff.1 hu).1
  obtain ⟨b, off, h1, _, h3⟩ := h.lie (by omega)
  rw [ha] at h1
  obtain rfl := Option.some.inj h1
  have hI := h3 (j / 4) (by omega)
  have hg := flatI_get L n (j / 4) (j % 4) (by omega) (by omega)
  rw [show j / 4 * 4 + j % 4 = j by omega, hu] at hg
  rw [Option.some.inj hg, add_at, show off + j = off + j / 4 * 4 + j % 4 by omega]
  have hc : j % 4 = 0 ∨ j % 4 = 1 ∨ j % 4 = 2 ∨ j % 4 = 3 := by omega
  rcases hc with e | e | e | e
  · rw [e]; exact hI.k0
  · rw [e]; exact hI.k1
  · rw [e]; exact hI.k2
  · rw [e]; exact hI.k3
/-- 'append([]Insn(nil), l...)'. -/
theorem wpList_append_prog {ops : Array Oper} {rest : List Oper} {o : Oper} {a : Act} {w : World} {Q : Exit → Act → World → Prop} (hgd : o.guard = none) (s x : Operand)
    (ho : o.op = .call { callee := .builtin .append, args := #[s, x], argTypes := #[76, 76] })
    (base : Nat) (hs : a.eval s = .slice none 0 0) (oa : Option Addr) (n cap : Nat) (L : Nat → IN) (hx : a.eval x = .slice oa n cap) (hnil : oa = none → n = 0 ∧ cap = 0) (hP : IsProg oa n L w)
    (hn : n ≤ 10000) (hbase : base ≤ w.heap.size)
    (h : ∀ v' w', w'.ownsRow base 78 4 v' n (flatI L n) → Below w.heap.size w w' → wpList Try.prog ops Q rest (a.put o.dst v') w') : wpList Try.prog ops Q (o :: rest) a w := by
  obtain ⟨i, hi, hz, hsz, hby⟩ := info_ins
  cases oa with
  | none =>
    obtain ⟨rfl, rfl⟩ := hnil rfl
    exact wpList_append_own_none hgd s x 76 ho base 78 i 4 Try.underlying76 hi (.slice none 0 0) 0 [] hs (World.ownsRow_nil _ _ _ _) hx (h _ _ (World.ownsRow_nil _ _ _ _) (Below.refl _ _))
  | some ad =>
    refine wpList_append_own (P := Try.prog) w hgd s x 76 ho base 78 i _ 4 32 Try.underlying76 hi hz hsz hby rfl (by decide) (.slice none 0 0) 0 [] hs (World.ownsRow_nil _ _ _ _) ad n cap (flatI L n) hx (flatI_len L n) (flatI_cells hP rfl) (flatI_one L n) (by simp only [maxLen]; omega) (by omega) hbase ?_
    intro v' w' h1 h2 _
    rw [Nat.zero_add, List.nil_append] at h1
    exact h v' w' h1 ((Below.refl _ _).grown h2 (Nat.le_refl _) (fun k hk => by cases hk))

theorem prog_prefix {W : World} {base n m cap : Nat} {g : Nat} {M : Nat → IN} {ys : List Value} (h : W.ownsRow base 78 4 (.slice (some ⟨g, 0, none⟩) m cap) m (flatI M n ++ ys)) (hok : ∀ i, i < n → InOk (M i)) : IsProg (some ⟨g, 0, none⟩) n M W :=
  ⟨fun _ => ⟨g, 0, rfl, (h.lt g rfl).2, fun i hi => by
    have hg := fun j (hj : j < 4) => show (flatI M n ++ ys)[i * 4 + j]? = some (insCell (M i) j) by
      rw [List.getElem?_append_left (by rw [flatI_len]; omega)]
      exact flatI_get M n i j hi hj
    have hc := fun j (hj : j < 4) => h.cells (g := g) rfl (i * 4 + j) _ (hg j hj)
    have e := fun j => show (⟨g, 0, none⟩ : Addr).add (i * 4 + j) = ⟨g, 0 + i * 4 + j, none⟩ by rw [add_at, Nat.add_assoc]
    exact ⟨by have := hc 0 (by omega); rw [e 0] at this; exact this, by have := hc 1 (by omega); rw [e 1] at this; exact this, by have := hc 2 (by omega); rw [e 2] at this; exact this, by have := hc 3 (by omega); rw [e 3] at this; exact this, hok i hi⟩⟩⟩
theorem owns_cap {W : World} {base n cap g : Nat} {xs : List Value} (h : W.ownsRow base 78 4 (.slice (some ⟨g, 0, none⟩) n cap) n xs) : n ≤ cap := by
  rcases h.2 with ⟨h1, _⟩ | ⟨g', cap', cur, h1, _, _, hc, _⟩
  · cases h1
  · cases h1; exact hc

/-- What is written is read. -/
theorem progB_get (L : Nat → IN) : ∀ n i j, i < n → j < 8 → (progB L n)[8 * i + j]? = (insB (L i))[j]?
  | n + 1, i, j, hi, hj => by
    rw [progB, List.getElem?_append, progB_len]
    by_cases h : i < n
    · rw [if_pos (by omega)]; exact progB_get L n i j h hj
    · obtain rfl : i = n := by omega
      rw [if_neg (by omega), show 8 * i + j - 8 * i = j by omega]
theorem byteAt_strB {l : List Nat} {p x : Nat} (h : l[p]? = some x) (hx : x < 256) : byteAt (strB l) p = x := by
  unfold byteAt strB
  rw [List.getD_eq_getElem?_getD]
  show ((l.map UInt8.ofNat)[p]?.getD 0).toNat = x
  rw [List.getElem?_map, h, Option.map_some, Option.getD_some, UInt8.toNat_ofNat', Nat.mod_eq_of_lt (show x < 2 ^ 8 from hx)]
theorem read_back {L : Nat → IN} {n : Nat} (hS : ∀ i, i < n → Small (L i)) (i : Nat) (hi : i < n) : progOf (strB (progB L n)) i = L i := by
  obtain ⟨o1, o2, t1, t2, f1, f2, k2⟩ := hS i hi
  have hg := fun j (hj : j < 8) x (hx : (insB (L i))[j]? = some x) (hlt : x < 256) => byteAt_strB ((progB_get L n i j hi hj).trans hx) hlt
  have g0 := hg 0 (by omega) _ rfl (by show (L i).op.toNat < 256; omega)
  have g2 := hg 2 (by omega) _ rfl (by show (L i).jt.toNat < 256; omega)
  have g3 := hg 3 (by omega) _ rfl (by show (L i).jf.toNat < 256; omega)
  have g4 := hg 4 (by omega) _ rfl (by show (L i).k % 256 < 256; omega)
  have g5 := hg 5 (by omega) _ rfl (by show (L i).k / 256 % 256 < 256; omega)
  have g6 := hg 6 (by omega) _ rfl (by show (L i).k / 65536 % 256 < 256; omega)
  have g7 := hg 7 (by omega) _ rfl (by show (L i).k / 16777216 % 256 < 256; omega)
  unfold progOf insAt
  have hk : kTo (strB (progB L n)) (8 * i + 4) 4 = (L i).k := by
    simp only [kTo]
    rw [show 8 * i + 4 + 0 = 8 * i + 4 from rfl, show 8 * i + 4 + 1 = 8 * i + 5 from rfl, show 8 * i + 4 + 2 = 8 * i + 6 from rfl, show 8 * i + 4 + 3 = 8 * i + 7 from rfl, g4, g5, g6, g7]
    omega
  rw [show 8 * i = 8 * i + 0 from rfl] at *
  rw [hk, g0, g2, g3]
  have e0 : (((L i).op.toNat : Nat) : Int) = (L i).op := by omega
  have e2 : (((L i).jt.toNat : Nat) : Int) = (L i).jt := by omega
  have e3 : (((L i).jf.toNat : Nat) : Int) = (L i).jf := by omega
  rw [e0, e2, e3]
theorem faultTo_congr {n : Nat} {L M : Nat → IN} : ∀ i, (∀ j, j < i → L j = M j) → faultTo n L i = faultTo n M i
  | 0, _ => rfl
  | i + 1, h => by rw [faultTo, faultTo, faultTo_congr i (fun j hj => h j (by omega)), h i (by omega)]
theorem checkR_congr {n : Nat} {L M : Nat → IN} (h : ∀ j, j < n → L j = M j) : checkR n L = checkR n M := by
  unfold checkR
  by_cases h0 : n = 0 ∨ 4096 < n
  · rw [if_pos h0, if_pos h0]
  · rw [if_neg h0, if_neg h0, faultTo_congr n h, h (n - 1) (by omega)]
theorem progB_congr {L M : Nat → IN} : ∀ i, (∀ j, j < i → L j = M j) → progB L i = progB M i
  | 0, _ => rfl
  | i + 1, h => by rw [progB, progB, progB_congr i (fun j hj => h j (by omega)), h i (by omega)]
theorem sameTo_eq {L M : Nat → IN} {n : Nat} (h : ∀ j, j < n → L j = M j) : sameTo L M n = true := by
  unfold sameTo
  rw [List.all_eq_true]
  intro j hj
  rw [List.mem_range] at hj
  rw [h j hj]
  simp [sameIns]

/-- 'same' at what Check tells. -/
theorem same_errV (f : Nat) (w : World) : Calls Try.prog 11 #[errV f, .int .i64 f] w fun e w' => e = .returned (.bool true) ∧ w' = w := by
  by_cases h : f = 0
  · subst h
    exact (same_nil 0 w).mono fun e w' ⟨he, hw⟩ => ⟨he, hw⟩
  · rw [errV_pos h]
    refine (same_errno f f w).mono fun e w' ⟨he, hw⟩ => ⟨?_, hw⟩
    rw [he]
    congr 2
    simp
    omega
end Go.Proofs.Ytlpcjonklfnejaa
