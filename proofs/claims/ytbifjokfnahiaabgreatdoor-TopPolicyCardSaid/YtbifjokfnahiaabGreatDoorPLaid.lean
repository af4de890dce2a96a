/- What the tables that the program's text lays give: the library's variables; the last wrap, the world's shape kept. -/
import Derived.Test.YtbifjokfnahiaabGreatDoorCards
import Derived.Test.YtbifjokfnahiaabGreatDoorTie
import Derived.Test.YtbifjokfnahiaabGreatDoorK22
import Derived.LaidMore
import Derived.Stop.Joined
import Derived.MakeChecks
import Derived.Lib.LaidTab
import Derived.Stop.LaidErr
import Derived.Shelf.Vars
namespace Go.Proofs.YtbifjokfnahiaabGreatDoor
open Go.ChangeShapes Go.WideShapes Go.ChangeAt Go.WideMaps Go.WideElems Go.RowKit

set_option maxRecDepth 100000 in
/-- A wrap that hands the contract both the row's condition and the world's shape. -/
theorem lift_shaped {H : Type} {enc : TypeId × Value → H} {os : Os} {f : FuncId} {fn : Func} {s : ChangeSpec} {X : World → Prop} (hX : ∀ w w' : World, w.heap = w'.heap → X w → X w') (started : os.Started) (noInit : Tryz.checked.prog.inits.idxOf? f = none) (hfn : Tryz.checked.prog.funcs[f]? = some fn)
    (witness : ∃ (w : World) (tape : Tape) (i : Input), w.os = os ∧ (w.forCall tape i).Shaped Tryz.checked.prog ∧ i.vars = [] ∧ Input.okWide Tryz.checked.prog (w.forCall tape i) .any w.heap.size f i ∧
      ((s.pre enc Tryz.checked.prog fn [] false (w.forCall tape i).memory i.args ∧ X (w.forCall tape i).memory) ∧ sizedMet enc Tryz.checked.prog fn (OpenSpec.ofChange s) false (w.forCall tape i).memory i.args) ∧ Assume.holds {} Tryz.checked.prog (lone (Frame.enter Tryz.checked.prog f i.args .normal) [] (w.forCall tape i)))
    (contract : ∀ (W : World) (base : Nat) (args : Array Value) (ds gs : List (DataW H)) (before : List MemPlace),
      (∀ (j : Nat) t v, fn.params[j]? = some t → args[j]? = some v → Value.okWide Tryz.checked.prog W .any base t v) → DataW.Whole enc Tryz.checked.prog fn.params.toList s.vars false W args.toList ds gs before → X W → W.ShapedOpen Tryz.checked.prog →
      Calls Tryz.checked.prog f args W fun e W' => ∃ v, e = .returned v ∧ s.post enc Tryz.checked.prog fn false true false false W args v W') :
    ReturnsInHanded {} Tryz.checked os f .any (fun w args => (s.pre enc Tryz.checked.prog fn [] false w args ∧ X w) ∧ sizedMet enc Tryz.checked.prog fn (OpenSpec.ofChange s) false w args) (s.post enc Tryz.checked.prog fn false true false false) := by
  refine returnsInHanded_of_calls own started noInit witness fun w tape i _ hsh _ hok hpre _ => ?_
  obtain ⟨_, _, _, fn', hfn', _, _, _, _, hval⟩ := hok
  obtain rfl : fn' = fn := Option.some.inj (hfn'.symm.trans hfn)
  obtain ⟨⟨⟨ds, gs, before, hw, _⟩, hx⟩, _⟩ := hpre
  refine (contract (w.forCall tape i) w.heap.size i.args ds gs before hval (DataW.Whole.of_heap (w' := w.forCall tape i) (by rfl) hw) (hX _ _ (by rfl) hx) hsh).mono fun e W' ⟨v, he, hp⟩ => ?_
  subst he
  exact ChangeSpec.post_blind hp

theorem err_of {W : World} {nm : String} {g : Nat} {d : DataW Unit} {rest : List (String × DataW Unit)} (hg : Tryz.prog.globalNamed nm = some g) (ht : (Tryz.prog.globals[g]?).map (·.type) = some 39) (h : laidMet Tryz.prog ((nm, .iface "*errors.errorString" d) :: rest) W) :
    ∃ ev, W.cell? ⟨g, 0, none⟩ = some ev ∧ (ev = .nilIface ∨ ∃ te pe, ev = .iface te pe) := by
  obtain ⟨ps, ⟨g', t', cs, fuel, p, q, hg', ht', hvar, hd, _, _⟩, _⟩ := h
  obtain rfl := Option.some.inj (hg.symm.trans hg')
  obtain rfl := Option.some.inj (ht.symm.trans ht')
  obtain ⟨l⟩ := cs
  obtain ⟨f1, u, v, hl, _, _⟩ := iface_of_trod Tryz.underlying39 hd
  have hc := World.var?_cell hg' hvar 0
  simp only at hl
  subst hl
  exact ⟨.iface u v, hc, .inr ⟨u, v, rfl⟩⟩

theorem sign_of {W : World} {rest : List (String × DataW Unit)} (h : laidMet Tryz.prog (("doorward/policy.signs", Rows.laid_doorward_policy_signs) :: rest) W) : ∀ i, i < 9 → W.cell? ⟨0, i, none⟩ = some (.string (bs (signW.getD i []))) := by
  obtain ⟨ps, ⟨g', t', cs, fuel, p, q, hg', ht', hvar, hd, _, _⟩, _⟩ := h
  obtain rfl := Option.some.inj ((show Tryz.prog.globalNamed "doorward/policy.signs" = some 0 by kernel_rfl).symm.trans hg')
  obtain rfl := Option.some.inj ((show (Tryz.prog.globals[0]?).map (·.type) = some 106 by kernel_rfl).symm.trans ht')
  obtain ⟨xs, m, _, hx, _, hl, hy⟩ := DataW.trod_array Tryz.underlying106 hd
  have hm : xs.map (·.1) = signW.map fun x => DataW.lit (.string x) := (DataW.agg.inj (congrArg Prod.fst hx)).symm
  intro i hi
  have hi' := hy i hi
  rw [cells_s, List.getElem?_eq_getElem (by omega)] at hi'
  obtain ⟨s, hs, hxs, _⟩ := DataW.trod_string Tryz.underlying9 hi'
  have h1 : (xs.map (·.1))[i]? = some (.lit (.string s.data.toList)) := by rw [List.getElem?_map, List.getElem?_eq_getElem (by omega), hxs]; rfl
  rw [hm, List.getElem?_map] at h1
  obtain ⟨y, hy1, hy2⟩ := Option.map_eq_some_iff.1 h1
  have hys : y = s.data.toList := by injection hy2 with h2; injection h2
  rw [World.var?_cell hg' hvar i, List.getD_eq_getElem?_getD, hy1, Option.getD_some, hys, bs_of]
  have h2 := congrArg (·[0]?) hs
  simpa [List.getElem?_take, List.getElem?_drop] using h2

/-- The library's variables, out of the row's condition and the world's shape. -/
theorem ev_of {W : World} {laid : List (String × DataW Unit)} (h : laidMetH Tryz.prog laid W) (hp : (laid.filter fun x => x.2.handleName?.isSome) = [])
    (hl : ∃ rest, laid = ("math/bits.deBruijn32tab", Rows.laid_math_bits_deBruijn32tab) :: ("math/bits.deBruijn64tab", Rows.laid_math_bits_deBruijn64tab) :: ("internal/strconv.uint64pow10", Rows.laid_internal_strconv_uint64pow10) :: ("unicode/utf8.acceptRanges", Rows.laid_unicode_utf8_acceptRanges) :: ("strconv.ErrRange", Rows.laid_strconv_ErrRange) :: ("strconv.ErrSyntax", Rows.laid_strconv_ErrSyntax) :: ("doorward/policy.signs", Rows.laid_doorward_policy_signs) :: rest)
    (hs : W.ShapedOpen Tryz.prog) : EV W := by
  have h0 : laidMet Tryz.prog laid W := by
    unfold laidMetH at h
    rw [hp] at h
    exact h
  obtain ⟨rest, rfl⟩ := hl
  have h2 := laidMet.tail (laidMet.tail h0)
  have h4 := laidMet.tail (laidMet.tail h2)
  have h5 := laidMet.tail h4
  have h6 := laidMet.tail h5
  refine ⟨?_, sign_of h6, ?_, err_of (nm := "strconv.ErrSyntax") (g := 5) (by kernel_rfl) (by kernel_rfl) h5, err_of (nm := "strconv.ErrRange") (g := 6) (by kernel_rfl) (by kernel_rfl) h4⟩
  · exact Lib.tabIs_of_head (zs := Lib.pow10Tab) (g := (Tryz.prog.globalNamed "internal/strconv.uint64pow10").get!) (t := 161) (e := 28) (n := 20) (by kernel_rfl) (by kernel_rfl) (by kernel_rfl) (by kernel_rfl) (by kernel_rfl) (by kernel_rfl) h2
  · exact cell_of_shapedOpen_int (t := 3) (zero := #[.int .i64 0]) hs (of_decide_eq_true (by kernel_rfl)) (by kernel_rfl) rfl (by kernel_rfl) (by kernel_rfl) Tryz.underlying3
end Go.Proofs.YtbifjokfnahiaabGreatDoor
