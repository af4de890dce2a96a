/- Acts that came in: a slice of them, cell by cell; LightActs. -/
import Derived.Test.YtlpcjonklfnejaaMHigh
import Derived.Deep.RegionWith
namespace Go.Proofs.Ytlpcjonklfnejaa
open Go.RowKit

/-- An act, as its cells hold it. -/
structure AC where
  kind : ByteArray
  n : Int
  a : Nat
  s : ByteArray
  wr : Bool
  c0 : Int
  c1 : Int
  c2 : Int
  c3 : Int
  c4 : Int
  c5 : Int
/-- Its cells lie from o on. -/
structure ActAt (W : World) (b o : Nat) (x : AC) : Prop where
  k0 : W.cell? ⟨b, o, none⟩ = some (.string x.kind)
  k1 : W.cell? ⟨b, o + 1, none⟩ = some (.int .i64 x.n)
  k2 : W.cell? ⟨b, o + 2, none⟩ = some (.int .u64 x.a)
  k3 : W.cell? ⟨b, o + 3, none⟩ = some (.string x.s)
  k4 : W.cell? ⟨b, o + 4, none⟩ = some (.bool x.wr)
  k5 : W.cell? ⟨b, o + 5, none⟩ = some (.int .u32 x.c0)
  k6 : W.cell? ⟨b, o + 6, none⟩ = some (.int .u32 x.c1)
  k7 : W.cell? ⟨b, o + 7, none⟩ = some (.int .u64 x.c2)
  k8 : W.cell? ⟨b, o + 8, none⟩ = some (.int .u64 x.c3)
  k9 : W.cell? ⟨b, o + 9, none⟩ = some (.int .u64 x.c4)
  k10 : W.cell? ⟨b, o + 10, none⟩ = some (.int .u64 x.c5)
  kindLen : x.kind.size ≤ maxLen
  sLen : x.s.size ≤ maxLen
  aLt : x.a < 18446744073709551616
  nLo : -9223372036854775808 ≤ x.n
  nHi : x.n ≤ 9223372036854775807
theorem ActAt.on {W V : World} {b o : Nat} {x : AC} (h : ActAt W b o x) (hc : ∀ j, V.cell? ⟨b, j, none⟩ = W.cell? ⟨b, j, none⟩) : ActAt V b o x :=
  ⟨(hc _).trans h.k0, (hc _).trans h.k1, (hc _).trans h.k2, (hc _).trans h.k3, (hc _).trans h.k4, (hc _).trans h.k5, (hc _).trans h.k6, (hc _).trans h.k7, (hc _).trans h.k8, (hc _).trans h.k9, (hc _).trans h.k10, h.kindLen, h.sLen, h.aLt, h.nLo, h.nHi⟩

/-- A slice of n acts in a world: nowhere, if there are none. -/
structure IsActs (oa : Option Addr) (n : Nat) (L : Nat → AC) (W : World) : Prop where
  lie : 0 < n → ∃ b off, oa = some ⟨b, off, none⟩ ∧ b < W.heap.size ∧ ∀ i, i < n → ActAt W b (off + i * 11) (L i)
theorem IsActs.on {oa : Option Addr} {n : Nat} {L : Nat → AC} {W V : World} (h : IsActs oa n L W) (hb : Below W.heap.size W V) : IsActs oa n L V :=
  ⟨fun h0 => by
    obtain ⟨b, off, h1, h2, h3⟩ := h.lie h0
    exact ⟨b, off, h1, Nat.lt_of_lt_of_le h2 hb.size, fun i hi => (h3 i hi).on fun j => (bcell hb).1 b j h2⟩⟩

/-- Few, and short? -/
def lightR (n : Nat) (L : Nat → AC) (most : Int) : Bool := decide ((n : Int) ≤ most) && (List.range n).all fun i => decide ((L i).s.size ≤ 200)

theorem light_any (oa : Option Addr) (n cap : Nat) (hn : n ≤ 9223372036854775807) (L : Nat → AC) (most : Int) (w : World) (h : IsActs oa n L w) :
    Calls Try.prog 19 #[.slice oa n cap, .int .i64 most] w fun e w' => e = .returned (.bool (lightR n L most)) ∧ w' = w := by
  by_cases hm : (n : Int) ≤ most
  · have hd : decide (most < (n : Int)) = false := by simp; omega
    have hd2 : decide ((n : Int) ≤ most) = true := by simp; omega
    have HL := hide h
    clear h
    go_enter Try.func19, Try.ntmps19
    go_wp2
    go_loopw [5] (fun I w' => ∃ i : Nat, i ≤ n ∧ I = .int .i64 i ∧ w' = w ∧ Hid (∀ j, j < i → (L j).s.size ≤ 200)) (fun I _ => n - (intOf I).toNat)
    case atStart => exact ⟨0, by omega, rfl, rfl, hide (fun j hj => by omega)⟩
    case round =>
      obtain ⟨i, hi, rfl, rfl, HG⟩ := hrel
      by_cases hlt : i < n
      · obtain ⟨b, off, rfl, hb, hA⟩ := HL.out.lie (by omega)
        have hc := (hA i hlt).k3
        have hsl := (hA i hlt).sLen
        unfold maxLen at hsl
        by_cases h2 : (L i).s.size ≤ 200
        · have HG2 := hide (show ∀ j, j < i + 1 → (L j).s.size ≤ 200 from fun j hj => by
            by_cases hji : j < i
            · exact HG.out j hji
            · rw [show j = i by omega]; exact h2)
          have d2 : decide ((200 : Int) < ((L i).s.size : Int)) = false := by simp; omega
          clear hA h2
          go_wp2
          go_round
          case rel => exact ⟨i + 1, by omega, by go_num, trivial, HG2⟩
          case measure => simp [intOf]; omega
        · have HF := hide (show lightR n L most = false by
            unfold lightR
            rw [hd2, Bool.true_and, List.all_eq_false]
            exact ⟨i, List.mem_range.2 hlt, by simpa using h2⟩)
          have d2 : decide ((200 : Int) < ((L i).s.size : Int)) = true := by simp; omega
          clear hA h2
          go_wp2
          go_ret
          exact ⟨by rw [HF.out]; rfl, rfl⟩
      · have HT := hide (show lightR n L most = true by
          unfold lightR
          rw [hd2, Bool.true_and, List.all_eq_true]
          intro j hj
          rw [List.mem_range] at hj
          simpa using HG.out j (by omega))
        go_wp2
        go_ret
        exact ⟨by rw [HT.out]; rfl, rfl⟩
  · have hd : decide (most < (n : Int)) = true := by simp; omega
    have HF := hide (show lightR n L most = false by unfold lightR; rw [show decide ((n : Int) ≤ most) = false by simp; omega]; rfl)
    go_enter Try.func19, Try.ntmps19
    go_wp2
    go_ret
    exact ⟨by rw [HF.out]; rfl, rfl⟩
theorem light_spec {n : Nat} {L : Nat → AC} {most : Int} (h : lightR n L most = true) : (n : Int) ≤ most ∧ ∀ i, i < n → (L i).s.size ≤ 200 := by
  unfold lightR at h
  rw [Bool.and_eq_true, List.all_eq_true] at h
  refine ⟨by simpa using h.1, fun i hi => ?_⟩
  simpa using h.2 i (List.mem_range.2 hi)
end Go.Proofs.Ytlpcjonklfnejaa
