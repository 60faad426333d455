/- Shadow variables: the comparison of keys, the program's. -/
import Derived.Test.YtibepggakjfbcaaShwK
import Derived.Deep.Draws
namespace Go.Proofs.Ytibepggakjfbcaa
open Go Go.RowKit Go.Sort
set_option linter.unusedVariables false

theorem new2_0 (W : World) (v0 v1 : Value) (t : TypeId) (s : Nat) (h : W.heap.size = s) : (W.alloc (.cells #[v0, v1] t)).cell? ⟨s, 0, none⟩ = some v0 := by subst h; simp
theorem new2_1 (W : World) (v0 v1 : Value) (t : TypeId) (s : Nat) (h : W.heap.size = s) : (W.alloc (.cells #[v0, v1] t)).cell? ⟨s, 0 + 1, none⟩ = some v1 := by subst h; simp
theorem drewGrow (w : World) (os : Array Obj) : (grow w os).drew = grow w.drew os := rfl
set_option maxRecDepth 100000 in
set_option maxHeartbeats 4000000 in
theorem cmpKC (x y : Int × Int) (w : World) :
    Calls Try.prog 35 #[kA x, kA y] w fun e w' => e = .returned (.int .i64 (cmp2 x y)) ∧ ∃ q os', w' = grow (w.drewN q) os' := by
  obtain ⟨a, b⟩ := x
  obtain ⟨c, d⟩ := y
  have c1 := fun W => cmpC a c W
  have c2 := fun W => cmpC b d W
  have c3 : ∀ (g : Nat) (W : World), W.cell? ⟨g, 0, none⟩ = some (.int .i64 (cmpI a c)) → W.cell? ⟨g, 0 + 1, none⟩ = some (.int .i64 (cmpI b d)) → Calls Try.prog 48 #[.slice (some ⟨g, 0, none⟩) 2 2] W fun e w' => e = .returned (.int .i64 (cmp2 (a, b) (c, d))) ∧ w' = W := fun g W h0 h1 => orC g _ _ W h0 h1
  generalize cmp2 (a, b) (c, d) = r at c3 ⊢
  generalize cmpI a c = r1 at c1 c3
  generalize cmpI b d = r2 at c2 c3
  have H1 : Hid (∀ W : World, _) := c1
  have H2 : Hid (∀ W : World, _) := c2
  have H3 : Hid (∀ (g : Nat) (W : World), _) := c3
  clear c1 c2 c3
  go_enter Try.func35, Try.ntmps35
  go_wp2_with fail
  go_region_held3 (fun w' => w'.cell? ⟨w.heap.size, 0, none⟩ = some (.int .i64 a) ∧ w'.cell? ⟨w.heap.size, 1, none⟩ = some (.int .i64 b) ∧ w'.cell? ⟨w.heap.size + 1, 0, none⟩ = some (.int .i64 c) ∧ w'.cell? ⟨w.heap.size + 1, 1, none⟩ = some (.int .i64 d)) (go_keep) (first | (go_at_call 49; (with_reducible refine (H1.out _).mono ?_); rintro e w' ⟨rfl, rfl⟩) | (go_at_call 49; (with_reducible refine (H2.out _).mono ?_); rintro e w' ⟨rfl, rfl⟩) | (go_at_call 48; refine (H3.out _ _ ?_ ?_).mono ?_; (refine new2_0 _ _ _ _ _ ?_; simp); (refine new2_1 _ _ _ _ _ ?_; simp); rintro e w' ⟨rfl, rfl⟩))
  all_goals
    go_wp2_with fail
    go_ret
    exact ⟨rfl, 1, _, by simp only [alloc_eq_grow, drewGrow, grow_grow]; rfl⟩
theorem grown_below {w w' : World} {q : Nat} {os' : Array Obj} (h : w' = grow (w.drewN q) os') : Below w.heap.size w w' := by
  subst h
  exact ⟨rfl, rfl, rfl, by simp [grow, World.drewN], fun k hk => by show (w.heap ++ os')[k]? = _; rw [Array.getElem?_append_left hk]⟩
theorem cmpKB (x y : Int × Int) (w : World) :
    Calls Try.prog 35 #[kA x, kA y] w fun e w' => e = .returned (.int .i64 (cmp2 x y)) ∧ Below w.heap.size w w' :=
  (cmpKC x y w).mono fun _ _ ⟨he, _, _, hw⟩ => ⟨he, grown_below hw⟩
end Go.Proofs.Ytibepggakjfbcaa
