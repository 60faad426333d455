/- A processor, by value, that comes in: opened and shut. -/
import Derived.Test.YtjpdjalhhokghaaDoorHrtP
import Derived.ChangeSame
import Derived.ChangeArms
import Derived.WideShapes
import Derived.OpenShut
namespace Go.Proofs.YtjpdjalhhokghaaDoor
open Go Go.RowKit Go.ChangeShapes Go.WideShapes
set_option linter.unusedVariables false
section
variable {H : Type} {enc : TypeId × Value → H} {P : Program} {w : World} {base : Nat} {spare : Nat → Bool} {held : Bool}

theorem mapM_mk {α β : Type} (f : α → Option β) (g : α → β) : ∀ l : List α, (∀ x ∈ l, f x = some (g x)) → l.mapM f = some (l.map g)
  | [], _ => rfl
  | a :: r, h => by
    rw [List.mapM_cons, h a (by simp), mapM_mk f g r (fun x hx => h x (by simp [hx]))]
    rfl

theorem trod_row_open {t e : TypeId} {n : Nat} {fuel : Nat} {cs : List Value} {x : DataW H × List MemPlace} (ht : P.underlying t = some (.array n e)) (he : P.underlying e = some (.int .i64)) (hc : P.cellsOf e = 1) (hct : P.cellsOf t = n)
    (h : DataW.trod enc P w base spare held fuel t cs = some x) :
    ∃ R : Nat → Int, cs = (List.range n).map (fun i => Value.int .i64 (R i)) ∧ x = (.agg ((List.range n).map fun i => .lit (.int .i64 (R i))), []) ∧ ∀ i, i < n → (Lit.int .i64 (R i)).wf = true := by
  obtain ⟨xs, m, _, rfl, hl, hxs, hf⟩ := DataW.trod_array ht h
  have key : ∀ i, i < n → ∃ a : Int, (cs.drop i).take 1 = [Value.int .i64 a] ∧ xs[i]? = some (.lit (.int .i64 a), []) ∧ (Lit.int .i64 a).wf = true := by
    intro i hi
    have h1 := hf i hi
    rw [hc, Nat.mul_one] at h1
    obtain ⟨y, hy⟩ : ∃ y, xs[i]? = some y := ⟨xs[i]'(by omega), List.getElem?_eq_getElem (by omega)⟩
    rw [hy] at h1
    obtain ⟨a, h2, rfl, h3⟩ := DataW.trod_int he h1
    exact ⟨a, h2, hy, h3⟩
  obtain ⟨R, hR⟩ : ∃ R : Nat → Int, ∀ i, i < n → (cs.drop i).take 1 = [Value.int .i64 (R i)] ∧ xs[i]? = some (.lit (.int .i64 (R i)), []) ∧ (Lit.int .i64 (R i)).wf = true :=
    ⟨fun i => if h : i < n then Classical.choose (key i h) else 0, fun i hi => by simp only [hi, dif_pos]; exact Classical.choose_spec (key i hi)⟩
  have hxs' : xs = (List.range n).map fun i => (DataW.lit (.int .i64 (R i)), []) := by
    apply List.ext_getElem?
    intro i
    by_cases hi : i < n
    · rw [(hR i hi).2.1]
      simp [hi]
    · rw [List.getElem?_eq_none (by omega), List.getElem?_eq_none (by simp; omega)]
  refine ⟨R, ?_, ?_, fun i hi => (hR i hi).2.2⟩
  · apply List.ext_getElem?
    intro i
    by_cases hi : i < n
    · have h1 := (hR i hi).1
      have h2 : cs[i]? = some (Value.int .i64 (R i)) := by
        have h3 := congrArg (fun l => l[0]?) h1
        simpa [List.getElem?_take, List.getElem?_drop] using h3
      rw [h2]
      simp [hi]
    · rw [List.getElem?_eq_none (by omega), List.getElem?_eq_none (by simp; omega)]
  · rw [hxs']
    simp [List.flatMap]

theorem trod_row_mk {t e : TypeId} {n : Nat} {R : Nat → Int} (m : Nat) (ht : P.underlying t = some (.array n e)) (he : P.underlying e = some (.int .i64)) (hc : P.cellsOf e = 1) (hct : P.cellsOf t = n)
    (hw : ∀ i, i < n → (Lit.int .i64 (R i)).wf = true) :
    DataW.trod enc P w base spare held (m + 2) t ((List.range n).map (fun i => Value.int .i64 (R i))) = some (.agg ((List.range n).map fun i => .lit (.int .i64 (R i))), []) := by
  have key := mapM_mk (fun i => DataW.trod enc P w base spare held (m + 1) e ((((List.range n).map (fun i => Value.int .i64 (R i))).drop (i * P.cellsOf e)).take (P.cellsOf e))) (fun i => ((DataW.lit (.int .i64 (R i)) : DataW H), ([] : List MemPlace))) (List.range n) (by
    intro i hi
    have hi' : i < n := by simpa using hi
    rw [hc, Nat.mul_one]
    have h1 : (((List.range n).map (fun i => Value.int .i64 (R i))).drop i).take 1 = [Value.int .i64 (R i)] := by
      rw [List.drop_eq_getElem_cons (by simpa using hi')]
      simp
    rw [h1]
    exact trod_int_mk m he (hw i hi'))
  unfold DataW.trod
  rw [ht]
  split <;> simp_all

/-- A processor: 32 registers and Pc. -/
theorem hartC_list (R : Nat → Int) (pc : Int) : (hartC R pc).toList = (List.range 32).map (fun i => Value.int .i64 (R i)) ++ [.int .i64 pc] := by
  simp [hartC_def, List.range_succ]

theorem open_hart {r : Reach} {b0 : Nat} {t : TypeId} {f0 f1 : Field} {e : TypeId} {v : Value} {d : DataW H} {p : List MemPlace} (hs : P.underlying t = some (.struct #[f0, f1])) (o0 : f0.offset = 0) (o1 : f1.offset = 32) (hC : P.cellsOf t = 33)
    (u0 : P.underlying f0.type = some (.array 32 e)) (c0 : P.cellsOf f0.type = 32) (ue : P.underlying e = some (.int .i64)) (ce : P.cellsOf e = 1) (u1 : P.underlying f1.type = some (.int .i64)) (c1 : P.cellsOf f1.type = 1)
    (hv : Value.okWide P w r b0 t v) (h : DataW.Trod enc P w base spare held t v d p) :
    ∃ (R : Nat → Int) (pc : Int), v = .agg (hartC R pc) ∧ d = .agg [.agg ((List.range 32).map fun i => .lit (.int .i64 (R i))), .lit (.int .i64 pc)] ∧ p = [] ∧
      (∀ i, i < 32 → (Lit.int .i64 (R i)).wf = true) ∧ (Lit.int .i64 pc).wf = true := by
  obtain ⟨cs, rfl, hsz⟩ := okWide_struct hs hv
  obtain ⟨fuel, hf⟩ := h
  obtain ⟨xs, n, _, hx, hl, hlen, hfs⟩ := DataW.trod_struct hs hf
  match xs, hlen with
  | [y0, y1], _ =>
    have h0 := hfs 0 f0 rfl
    have h1 := hfs 1 f1 rfl
    rw [o0, c0] at h0
    rw [o1, c1] at h1
    have g0 : DataW.trod enc P w base spare held n f0.type (cs.toList.take 32) = some y0 := by simpa [Value.cells] using h0
    have g1 : DataW.trod enc P w base spare held n f1.type ((cs.toList.drop 32).take 1) = some y1 := by simpa [Value.cells] using h1
    obtain ⟨R, e0, rfl, w0⟩ := trod_row_open u0 ue ce c0 g0
    obtain ⟨pc, e1, rfl, w1⟩ := DataW.trod_int u1 g1
    simp only [Prod.mk.injEq] at hx
    have hcs : cs = hartC R pc := by
      have hlen : cs.toList.length = 33 := by simpa [hC] using hsz
      have h3 : cs.toList = cs.toList.take 32 ++ (cs.toList.drop 32).take 1 := by
        rw [List.take_of_length_le (show (cs.toList.drop 32).length ≤ 1 by rw [List.length_drop]; omega), List.take_append_drop]
      rw [e0, e1] at h3
      have h4 : cs.toList = (hartC R pc).toList := by rw [hartC_list]; exact h3
      exact Array.ext' h4
    exact ⟨R, pc, by rw [hcs], by rw [hx.1]; rfl, by rw [hx.2]; rfl, w0, w1⟩

theorem shut_hart {t : TypeId} {f0 f1 : Field} {e : TypeId} {R : Nat → Int} {pc : Int} (hs : P.underlying t = some (.struct #[f0, f1])) (o0 : f0.offset = 0) (o1 : f1.offset = 32) (hC : P.cellsOf t = 33)
    (u0 : P.underlying f0.type = some (.array 32 e)) (c0 : P.cellsOf f0.type = 32) (ue : P.underlying e = some (.int .i64)) (ce : P.cellsOf e = 1) (u1 : P.underlying f1.type = some (.int .i64)) (c1 : P.cellsOf f1.type = 1)
    (w0 : ∀ i, i < 32 → (Lit.int .i64 (R i)).wf = true) (w1 : (Lit.int .i64 pc).wf = true) :
    DataW.Trod enc P w base spare held t (.agg (hartC R pc)) (.agg [.agg ((List.range 32).map fun i => .lit (.int .i64 (R i))), .lit (.int .i64 pc)]) [] := by
  have t0 := trod_row_mk (enc := enc) (w := w) (base := base) (spare := spare) (held := held) 0 u0 ue ce c0 w0
  have t1 := trod_int_mk (enc := enc) (w := w) (base := base) (spare := spare) (held := held) 1 u1 w1
  have l0 : ((hartC R pc).toList.drop 0).take 32 = (List.range 32).map (fun i => Value.int .i64 (R i)) := by rw [hartC_list, List.drop_zero, List.take_left' (by simp)]
  have l1 : ((hartC R pc).toList.drop 32).take 1 = [.int .i64 pc] := by rw [hartC_list, List.drop_left' (by simp)]; rfl
  have ts := trod_struct_mk (enc := enc) (w := w) (base := base) (spare := spare) (held := held) (n := 2) (cs := (hartC R pc).toList) (xs := [(.agg ((List.range 32).map fun i => .lit (.int .i64 (R i))), []), (.lit (.int .i64 pc), [])]) hs (by simp [hC])
    (by
      show List.mapM _ [f0, f1] = _
      rw [List.mapM_cons, List.mapM_cons, o0, o1, c0, c1, l0, l1, t0, t1]
      rfl)
  exact ⟨_, ts⟩
end
end Go.Proofs.YtjpdjalhhokghaaDoor
