/- Bytes. -/
import Derived.Test.YtlpcjonklfnejaaBBytes
import Derived.Test.YtlpcjonklfnejaaBRun2
namespace Go.Proofs.Ytlpcjonklfnejaa
open Go.RowKit

/-- The bytes of the first i instructions. -/
def progB (L : Nat → IN) : Nat → List Nat
  | 0 => []
  | i + 1 => progB L i ++ insB (L i)
theorem insB_len (x : IN) : (insB x).length = 8 := rfl
theorem progB_len (L : Nat → IN) : ∀ i, (progB L i).length = 8 * i
  | 0 => rfl
  | i + 1 => by rw [progB, List.length_append, progB_len L i, insB_len]; omega
def strB (l : List Nat) : ByteArray := ⟨(l.map UInt8.ofNat).toArray⟩

/-- 'make([]byte, 0, c)'. -/
theorem wpList_make_cap {ops : Array Oper} {rest : List Oper} {o : Oper} {a : Act} {w : World} {Q : Exit → Act → World → Prop} (hgd : o.guard = none) (x y : Operand) (ho : o.op = .makeSlice 120 x y) (c base : Nat)
    (hx : a.eval x = .int .i64 0) (hy : a.eval y = .int .i64 c) (hc : c ≤ 100000) (hbase : base ≤ w.heap.size)
    (h : ∀ v' w', w'.ownsRow base 5 1 v' 0 (u8s []) → Below w.heap.size w w' → wpList Try.prog ops Q rest (a.put o.dst v') w') : wpList Try.prog ops Q (o :: rest) a w := by
  obtain ⟨i, hi, hz, hs, hb⟩ := info_byte
  have hr := run_make (P := Try.prog) w 120 5 i _ Try.underlying120 hi hz .i64 .i64 (0 : Int) (c : Int) (by omega) (by omega) (by rw [hb]; omega) (by omega)
  rw [hs] at hr
  refine wpList_plain hgd fun _ hK => ?_
  unfold Oper.wp execOp
  simp only [ho, hx, hy, Sem.run_bind, hr, Result.andThen_ok]
  refine hK _ _ (h _ _ ?_ (box_below w _))
  exact World.ownsRow_made w _ _ hbase (by simp only [maxLen]; omega) (by rw [size_madeCells])

theorem conv_u8 {w : World} {base n : Nat} {v : Value} {l : List Nat} (hown : w.ownsRow base 5 1 v n (u8s l)) (hl : ∀ x ∈ l, x < 256) (hn : 0 < n) : (convert 120 9 v).run Try.prog w = .ok (.string (strB l)) w := by
  obtain ⟨g, cap, rfl⟩ := Go.Joins.ownsRow_form hown hn
  have hlen : l.length = n := by have := hown.1; rw [u8s_len] at this; omega
  have hb : (l.map UInt8.ofNat).length = n := by rw [List.length_map, hlen]
  have h := run_convert_bytes_back (P := Try.prog) w 120 9 5 ⟨g, 0, none⟩ cap (l.map UInt8.ofNat) Try.underlying120 Try.underlying5 Try.underlying9 fun j hj => by
    have hj' : j < l.length := by rw [hb] at hj; omega
    rw [hown.cells (g := g) rfl j (.int .u8 (l[j] : Nat)) (by unfold u8s; rw [List.getElem?_map, List.getElem?_eq_getElem hj']; rfl)]
    have hx := hl _ (List.getElem_mem hj')
    rw [List.getElem_map, UInt8.toNat_ofNat', Nat.mod_eq_of_lt (show l[j] < 2 ^ 8 from hx)]
  rw [hb] at h
  exact h
theorem small_of {x : IN} {m : Nat} (h : faultI x m = 0) (hk : InOk x) : Small x := by
  obtain ⟨h1, h2, h3, h4, h5, h6, _⟩ := fine_ins h
  exact ⟨by omega, by omega, h3, h4, h5, h6, hk.k2⟩
theorem insB_lt {x : IN} (h : Small x) : ∀ y ∈ insB x, y < 256 := by
  obtain ⟨o1, o2, t1, t2, f1, f2, k2⟩ := h
  intro y hy
  simp only [insB, kb, List.cons_append, List.nil_append, List.mem_cons, List.not_mem_nil, or_false] at hy
  rcases hy with rfl | rfl | rfl | rfl | rfl | rfl | rfl | rfl <;> omega
theorem progB_lt {L : Nat → IN} : ∀ {i : Nat}, (∀ j, j < i → Small (L j)) → ∀ y ∈ progB L i, y < 256
  | 0, _, y, hy => by cases hy
  | i + 1, h, y, hy => by
    rw [progB, List.mem_append] at hy
    rcases hy with hy | hy
    · exact progB_lt (fun j hj => h j (by omega)) y hy
    · exact insB_lt (h i (by omega)) y hy
theorem owns_u8_later {w w' : World} {base n : Nat} {v : Value} {xs : List Value} (h : w.ownsRow base 5 1 v n xs) (hb : Below w.heap.size w w') : w'.ownsRow base 5 1 v n xs := by
  refine h.kept (row := none) ⟨hb.os, hb.tape, hb.output, hb.size, fun k hk _ => hb.block k hk⟩ ?_
  cases hv : v.ownBlock with
  | none => exact .inl rfl
  | some k => exact .inr (by simp)

theorem bytes_bad (oa : Option Addr) (n cap : Nat) (hn : n ≤ 9223372036854775807) (L : Nat → IN) (w : World) (h : IsProg oa n L w) (hf : checkR n L ≠ 0) :
    Calls Try.prog 46 #[.slice oa n cap] w fun e w' => e = .returned (.tuple #[.string ⟨#[]⟩, errV (checkR n L)]) ∧ Below w.heap.size w w' := by
  have HC := check_any oa n cap hn L w h
  rw [errV_pos hf] at HC ⊢
  go_enter Try.func46, Try.ntmps46
  go_wp2_with (go_at_call 48; refine HC.mono ?_; rintro e w' ⟨rfl, hb⟩)
  go_ret2
  exact ⟨rfl, hb⟩

set_option maxRecDepth 20000 in
theorem bytes_ok (oa : Option Addr) (n cap : Nat) (L : Nat → IN) (w : World) (h : IsProg oa n L w) (hf : checkR n L = 0) :
    Calls Try.prog 46 #[.slice oa n cap] w fun e w' => e = .returned (.tuple #[.string (strB (progB L n)), .nilIface]) ∧ Below w.heap.size w w' := by
  have HF := hide (fit_of hf)
  have hpos := HF.out.pos
  have hmost := HF.out.most
  have HC := check_any oa n cap (by omega) L w h
  rw [hf, errV_zero] at HC
  obtain ⟨b, off, rfl, hb, hA0⟩ := h.lie hpos
  have HA := hide hA0
  have HS := hide (show ∀ j, j < n → Small (L j) from fun j hj => small_of (HF.out.each j hj) (hA0 j hj).ok)
  clear h hA0
  go_enter Try.func46, Try.ntmps46
  go_wp2_with fail
  refine HC.mono ?_
  rintro e w1 ⟨rfl, hb1⟩
  clear HC
  go_wp2_with (at_make; refine wpList_make_cap rfl _ _ rfl (n * 8) w.heap.size ?_ ?_ (by omega) hb1.size ?_; (· rfl); (· (simp [Act.eval])); intro v2 w2 ho2 hb2)
  replace ho2 := hide ho2
  replace hb2 := hide (below_next hb1 hb2)
  clear hb1
  go_loopw [5, 18] (fun V I wr => ∃ i : Nat, i ≤ n ∧ I = .int .i64 i ∧ Hid (wr.ownsRow w.heap.size 5 1 V (8 * i) (u8s (progB L i))) ∧ Hid (Below w.heap.size w wr)) (fun _ I _ => n - (intOf I).toNat)
  case atStart => exact ⟨0, by omega, rfl, ho2, hb2⟩
  case round =>
    obtain ⟨i, hi, rfl, HR, HB⟩ := hrel
    by_cases hlt : i < n
    · have hI := (HA.out i hlt).on fun j => (bcell HB.out).1 b j hb
      have HQ := hide (show progB L (i + 1) = progB L i ++ insB (L i) from rfl)
      have HAp := fun w' ho hbs => appendInsn_any w.heap.size u5 (8 * i) (progB L i) (L i) (HS.out i hlt) w' ho hbs (by omega)
      obtain ⟨x, hx⟩ : ∃ x, x = L i := ⟨_, rfl⟩
      rw [← hx] at hI HQ HAp
      clear hx
      obtain ⟨c0, c1, c2, c3, _⟩ := hI
      obtain ⟨op, jt, jf, k⟩ := x
      unfold insV at HAp
      simp only at c0 c1 c2 c3 HAp
      go_wp2_with (go_at_call 66; refine (HAp _ HR.out HB.out.size).mono ?_; rintro e w3 ⟨v3, rfl, ho3, hb3⟩)
      go_round
      case rel => exact ⟨i + 1, by omega, by go_num, hide (by rw [HQ.out]; exact ho3), hide (HB.out.trans hb3)⟩
      case measure => simp [intOf]; omega
    · obtain rfl : i = n := by omega
      have hcv := conv_u8 HR.out (progB_lt HS.out) (by omega)
      go_wp2
      go_ret2
      exact ⟨rfl, HB.out⟩
end Go.Proofs.Ytlpcjonklfnejaa
