/- Decode: both contracts at once. -/
import Derived.Test.YtjpdjalhhokghaaDoorGXDecode13
namespace Go.Proofs.YtjpdjalhhokghaaDoor
open Go.RowKit
set_option linter.unusedVariables false

theorem wordIs (v : Int) (b : Bool) (w : World) (h : (b = true ∧ 0 ≤ v ∧ v ≤ 4294967295) ∨ (b = false ∧ (v < 0 ∨ 4294967295 < v))) :
    Calls Tryd.prog 73 #[.int .i64 v] w fun e w' => e = .returned (.bool b) ∧ w' = w := by
  go_enter Tryd.func73, Tryd.ntmps73
  go_wp2_with fail
  refine (spIn v 0 4294967295 _ b h).mono ?_
  rintro e w1 ⟨rfl, rfl⟩
  clear h
  go_wp2
  go_ret
  exact ⟨rfl, rfl⟩

def DmIs (v a0 a1 a2 a3 a4 : Int) (b : Bool) : Prop := ∀ w, Calls Tryd.prog 74 #[.int .i64 v] w fun e w' => e = .returned (.tuple #[.agg #[.int .i64 a0, .int .i64 a1, .int .i64 a2, .int .i64 a3, .int .i64 a4], .bool b]) ∧ Below w.heap.size w w'

theorem sdBad (v : Int) (h : v < 0 ∨ 4294967295 < v) (w : World) :
    Calls Tryd.prog 31 #[.int .i64 v] w fun e w' => e = .returned (.tuple #[it0, .int .i64 4]) ∧ Below w.heap.size w w' := by
  go_enter Tryd.func31, Tryd.ntmps31
  go_wp2_with fail
  refine (wordIs v false _ (.inr ⟨rfl, h⟩)).mono ?_
  rintro e w1 ⟨rfl, rfl⟩
  clear h
  go_wp2
  refine bodyPost_ret (v := .tuple #[.agg #[.int .i64 0, .int .i64 0, .int .i64 0, .int .i64 0, .int .i64 0], .int .i64 4]) (by simp [results, Tryd.results31, go_sem]) rfl ⟨rfl, ?_⟩
  repeat (first | with_reducible exact Below.refl _ _ | refine Below.setCell ?_ (by first | omega | (simp; done) | (simp; omega)) _ | refine Below.alloc ?_ (by first | omega | (simp; done) | (simp; omega)) _)

set_option maxHeartbeats 1000000 in
theorem sdNo (v : Int) (v0 : 0 ≤ v) (v1 : v ≤ 4294967295) (hd : Hid (DmIs v 0 0 0 0 0 false)) (w : World) :
    Calls Tryd.prog 31 #[.int .i64 v] w fun e w' => e = .returned (.tuple #[it0, .int .i64 10]) ∧ Below w.heap.size w w' := by
  go_enter Tryd.func31, Tryd.ntmps31
  go_wp2_with fail
  refine (wordIs v true _ (.inl ⟨rfl, v0, v1⟩)).mono ?_
  rintro e w1 ⟨rfl, rfl⟩
  go_wp2_with fail
  refine (hd.out _).mono ?_
  rintro e w2 ⟨rfl, hb⟩
  obtain ⟨d0, d1, d2, d3, d4, g0, g1, g2, g3, g4⟩ : Five w2 w.heap.size 0 0 0 0 0 := Five.below (B := w.heap.size + 1) (by constructor <;> simp) (hb.mono (by simp)) (by omega)
  have z2 : w.heap.size + 1 ≤ w2.heap.size := by have := hb.size; simp at this; omega
  have B2 : Below w.heap.size w w2 := ((Below.refl _ _).alloc (Nat.le_refl _) _).trans (hb.mono (by simp))
  have hlt : w.heap.size < w2.heap.size := by omega
  have e0 : ¬ w.heap.size = w2.heap.size := by omega
  clear hb hd
  go_wp2
  refine bodyPost_ret (v := .tuple #[.agg #[.int .i64 0, .int .i64 0, .int .i64 0, .int .i64 0, .int .i64 0], .int .i64 10]) (by simp [results, Tryd.results31, go_sem, World.cell?_alloc_past, hlt, d0, d1, d2, d3, d4]) rfl ⟨rfl, ?_⟩
  repeat (first | with_reducible exact B2 | refine Below.setCell ?_ (by first | omega | (simp; done) | (simp; omega)) _ | refine Below.alloc ?_ (by first | omega | (simp; done) | (simp; omega)) _)
set_option maxHeartbeats 1000000 in
theorem sdYes (v a0 a1 a2 a3 a4 : Int) (v0 : 0 ≤ v) (v1 : v ≤ 4294967295) (hd : Hid (DmIs v a0 a1 a2 a3 a4 true)) (w : World) :
    Calls Tryd.prog 31 #[.int .i64 v] w fun e w' => e = .returned (.tuple #[.agg #[.int .i64 a0, .int .i64 a1, .int .i64 a2, .int .i64 a3, .int .i64 a4], .int .i64 0]) ∧ Below w.heap.size w w' := by
  go_enter Tryd.func31, Tryd.ntmps31
  go_wp2_with fail
  refine (wordIs v true _ (.inl ⟨rfl, v0, v1⟩)).mono ?_
  rintro e w1 ⟨rfl, rfl⟩
  go_wp2_with fail
  refine (hd.out _).mono ?_
  rintro e w2 ⟨rfl, hb⟩
  obtain ⟨d0, d1, d2, d3, d4, g0, g1, g2, g3, g4⟩ : Five w2 w.heap.size 0 0 0 0 0 := Five.below (B := w.heap.size + 1) (by constructor <;> simp) (hb.mono (by simp)) (by omega)
  have z2 : w.heap.size + 1 ≤ w2.heap.size := by have := hb.size; simp at this; omega
  have B2 : Below w.heap.size w w2 := ((Below.refl _ _).alloc (Nat.le_refl _) _).trans (hb.mono (by simp))
  have hlt : w.heap.size < w2.heap.size := by omega
  have e0 : ¬ w.heap.size = w2.heap.size := by omega
  clear hb hd
  go_wp2
  refine bodyPost_ret (v := .tuple #[.agg #[.int .i64 a0, .int .i64 a1, .int .i64 a2, .int .i64 a3, .int .i64 a4], .int .i64 0]) (by simp [results, Tryd.results31, go_sem, World.cell?_alloc_past, hlt, d0, d1, d2, d3, d4]) rfl ⟨rfl, ?_⟩
  repeat (first | with_reducible exact B2 | refine Below.setCell ?_ (by first | omega | (simp; done) | (simp; omega)) _ | refine Below.alloc ?_ (by first | omega | (simp; done) | (simp; omega)) _)

/-- The first Op that a word has, if there is one. -/
theorem first_hit (v : Int) : (∀ j : Nat, 1 ≤ j → j ≤ 64 → ¬ HitP j v) ∨ ∃ n : Nat, 1 ≤ n ∧ n ≤ 64 ∧ (∀ j : Nat, 1 ≤ j → j < n → ¬ HitP j v) ∧ HitP n v := by
  have key : ∀ m : Nat, (∀ j : Nat, 1 ≤ j → j ≤ m → ¬ HitP j v) ∨ ∃ n : Nat, 1 ≤ n ∧ n ≤ m ∧ (∀ j : Nat, 1 ≤ j → j < n → ¬ HitP j v) ∧ HitP n v := by
    intro m
    induction m with
    | zero => exact .inl (fun j h0 h1 => by omega)
    | succ m ih =>
      rcases ih with h | ⟨n, h0, h1, h2, h3⟩
      · by_cases hh : HitP ((m + 1 : Nat) : Int) v
        · exact .inr ⟨m + 1, by omega, Nat.le_refl _, fun j j0 j1 => h j j0 (by omega), hh⟩
        · refine .inl (fun j j0 j1 => ?_)
          by_cases e : j = m + 1
          · subst e; exact hh
          · exact h j j0 (by omega)
      · exact .inr ⟨n, h0, by omega, h2, h3⟩
  exact key 64

theorem decBoth (v : Int) : ∃ a0 a1 a2 a3 a4 co : Int,
    (∀ w, Calls Tryd.prog 31 #[.int .i64 v] w fun e w' => e = .returned (.tuple #[.agg #[.int .i64 a0, .int .i64 a1, .int .i64 a2, .int .i64 a3, .int .i64 a4], .int .i64 co]) ∧ Below w.heap.size w w') ∧
    (∀ w, Laid w → Calls Tryd.prog 32 #[.int .i64 v] w fun e w' => e = .returned (.tuple #[.agg #[.int .i64 a0, .int .i64 a1, .int .i64 a2, .int .i64 a3, .int .i64 a4], .int .i64 co]) ∧ Below w.heap.size w w') := by
  by_cases hb : v < 0 ∨ 4294967295 < v
  · exact ⟨0, 0, 0, 0, 0, 4, fun w => sdBad v hb w, fun w hl => decBad v hb w hl⟩
  · have v0 : 0 ≤ v := by omega
    have v1 : v < 4294967296 := by omega
    rcases first_hit v with h | ⟨n, n0, n1, h, hh⟩
    · exact ⟨0, 0, 0, 0, 0, 10, fun w => sdNo v v0 (by omega) (fun w => dmNone v v0 v1 h w) w, fun w hl => decNone v v0 v1 h w⟩
    · exact ⟨n, tkRd (shT n).1 v, tkR1 (shT n).1 v, tkR2 (shT n).1 v, takeF (shT n).1 v, 0, fun w => sdYes v _ _ _ _ _ v0 (by omega) (fun w => dmYes v v0 v1 n n0 n1 h hh _ rfl w) w, fun w hl => decX v v0 v1 n n0 n1 h hh _ rfl w⟩

theorem eqInstrC (a0 a1 a2 a3 a4 : Int) (w : World) :
    Calls Tryd.prog 33 #[.agg #[.int .i64 a0, .int .i64 a1, .int .i64 a2, .int .i64 a3, .int .i64 a4], .agg #[.int .i64 a0, .int .i64 a1, .int .i64 a2, .int .i64 a3, .int .i64 a4]] w fun e w' => e = .returned (.bool true) ∧ Below w.heap.size w w' := by
  go_enter Tryd.func33, Tryd.ntmps33
  go_wp2
  go_ret
  exact ⟨rfl, ((Below.refl _ _).alloc (Nat.le_refl _) _).alloc (by simp) _⟩
end Go.Proofs.YtjpdjalhhokghaaDoor
