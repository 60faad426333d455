/- An instruction of form 7 taken out of a word by the model: the contract. An instruction of form 8 taken out of a word by the model: the contract. An instruction of form 9 taken out of a word by the model: the contract. When the model takes a word: plain; what it takes: the contract. Decode of the model: contracts. Decode: both contracts at once. Contracts of both PutLittle. Numbers out of bytes: plain. Numbers out of bytes: contracts. Contracts of the model's SignOf. Contracts of both TakeLittle. The iterator over a run's instructions: it hands over each word's instruction and code. A run read: the program's readRun. Runs: what their words are; both readings of them. Both InstrsOf. -/
import Derived.Test.YtbfoopfmjiilcaaDoorGXInstrsOf1
import Derived.Test.YtbfoopfmjiilcaaDoorGXWordsOf35
import Derived.Test.YtbfoopfmjiilcaaDoorGXInstrsOf0
import Derived.Test.YtbfoopfmjiilcaaDoorGXWordsOf0
import Derived.Laws.BitsAllLaws
import Derived.Test.YtbfoopfmjiilcaaDoorGXWordsOf3
import Derived.Test.YtbfoopfmjiilcaaDoorGXWordsOf5
import Derived.Test.YtbfoopfmjiilcaaDoorGXWordsOf36
import Derived.Maps.OwnIn
import Derived.Deep.AppendLies
namespace Go.Proofs.YtbfoopfmjiilcaaDoor
open Go.RowKit
set_option linter.unusedVariables false

set_option maxRecDepth 100000 in
set_option maxHeartbeats 8000000 in
theorem tks7 (op v c g h : Int) (v0 : 0 ≤ v) (v1 : v < 4294967296) (hs : shT op = (7, c, g, h)) (w : World) :
    Calls Tryd.prog 86 #[.int .i64 op, .int .i64 v] w fun e w' => e = .returned (.agg #[.int .i64 op, .int .i64 (tkRd 7 v), .int .i64 (tkR1 7 v), .int .i64 (tkR2 7 v), .int .i64 (takeF 7 v)]) ∧ Below w.heap.size w w' := by
  have hsf := shF op 7 c g h hs
  have H1 : Hid (FieIs v 7 5 (v / 128 % 32)) := fie7_5 v
  have H2 : Hid (FieIs v 15 5 (v / 32768 % 32)) := fie15_5 v
  have H3 : Hid (FieIs v 20 5 (v / 1048576 % 32)) := fie20_5 v
  have eD : tkRd 7 v = v / 128 % 32 := by simp [tkRd]
  have eA : tkR1 7 v = v / 32768 % 32 := by simp [tkR1]
  have eB : tkR2 7 v = 0 := by simp [tkR2]
  have eT : takeF 7 v = v / 1048576 % 32 := rfl
  rw [eD, eA, eB, eT]
  clear eD eA eB eT hs
  have bD : 0 ≤ v / 128 % 32 ∧ v / 128 % 32 < 32 := by omega
  generalize v / 128 % 32 = D at *
  obtain ⟨bD0, bD1⟩ := bD
  have bA : 0 ≤ v / 32768 % 32 ∧ v / 32768 % 32 < 32 := by omega
  generalize v / 32768 % 32 = A at *
  obtain ⟨bA0, bA1⟩ := bA
  have bB : 0 ≤ v / 1048576 % 32 ∧ v / 1048576 % 32 < 32 := by omega
  generalize v / 1048576 % 32 = B at *
  obtain ⟨bB0, bB1⟩ := bB
  go_enter Tryd.func86, Tryd.ntmps86
  go_wp2_with fail
  refine (H1.out _).mono ?_
  rintro e w1 ⟨rfl, rfl⟩
  go_wp2_with fail
  refine (H2.out _).mono ?_
  rintro e w2 ⟨rfl, rfl⟩
  go_wp2_with fail
  refine (H3.out _).mono ?_
  rintro e w3 ⟨rfl, rfl⟩
  go_wp2_with fail
  refine (specShC op _).mono ?_
  rintro e w4 ⟨rfl, hb⟩
  have hz : w.heap.size + 2 ≤ w4.heap.size := by have := hb.size; simp at this; omega
  have X4 : Five w4 (w.heap.size + 1) op 0 0 0 0 := Five.below (B := w.heap.size + 2) (by constructor <;> simp) (hb.mono (by simp)) (by omega)
  have R4 : Five w4 w.heap.size 0 0 0 0 0 := Five.below (B := w.heap.size + 2) (by constructor <;> simp) (hb.mono (by simp)) (by omega)
  have B4 : Below w.heap.size w w4 := by
    refine Below.trans ?_ (hb.mono (by first | omega | (simp; done) | (simp; omega)))
    repeat (first | exact Below.refl _ _ | refine Below.setCell ?_ (by first | omega | (simp; done) | (simp; omega)) _ | refine Below.alloc ?_ (by first | omega | (simp; done) | (simp; omega)) _)
  clear hb H1 H2 H3
  obtain ⟨c0, c1, c2, c3, c4, f0, f1, f2, f3, f4⟩ := X4
  obtain ⟨d0, d1, d2, d3, d4, g0, g1, g2, g3, g4⟩ := R4
  go_wp2
  refine bodyPost_ret (v := .agg #[.int .i64 op, .int .i64 D, .int .i64 A, .int .i64 0, .int .i64 B]) (by simp [results, Tryd.results86, go_sem, d0, d1, d2, d3, d4]) rfl ⟨rfl, ?_⟩
  repeat (first | with_reducible exact B4 | refine Below.setCell ?_ (by first | omega | (simp; done) | (simp; omega)) _ | refine bdN ?_ _ | refine Below.drew ?_)
end Go.Proofs.YtbfoopfmjiilcaaDoor

namespace Go.Proofs.YtbfoopfmjiilcaaDoor
open Go.RowKit
set_option linter.unusedVariables false

set_option maxRecDepth 100000 in
set_option maxHeartbeats 8000000 in
theorem tks8 (op v c g h : Int) (v0 : 0 ≤ v) (v1 : v < 4294967296) (hs : shT op = (8, c, g, h)) (w : World) :
    Calls Tryd.prog 86 #[.int .i64 op, .int .i64 v] w fun e w' => e = .returned (.agg #[.int .i64 op, .int .i64 (tkRd 8 v), .int .i64 (tkR1 8 v), .int .i64 (tkR2 8 v), .int .i64 (takeF 8 v)]) ∧ Below w.heap.size w w' := by
  have hsf := shF op 8 c g h hs
  have H1 : Hid (FieIs v 7 5 (v / 128 % 32)) := fie7_5 v
  have H2 : Hid (FieIs v 15 5 (v / 32768 % 32)) := fie15_5 v
  have H3 : Hid (FieIs v 20 5 (v / 1048576 % 32)) := fie20_5 v
  have eD : tkRd 8 v = v / 128 % 32 := by simp [tkRd]
  have eA : tkR1 8 v = v / 32768 % 32 := by simp [tkR1]
  have eB : tkR2 8 v = v / 1048576 % 32 := by simp [tkR2]
  have eT : takeF 8 v = 0 := rfl
  rw [eD, eA, eB, eT]
  clear eD eA eB eT hs
  have bD : 0 ≤ v / 128 % 32 ∧ v / 128 % 32 < 32 := by omega
  generalize v / 128 % 32 = D at *
  obtain ⟨bD0, bD1⟩ := bD
  have bA : 0 ≤ v / 32768 % 32 ∧ v / 32768 % 32 < 32 := by omega
  generalize v / 32768 % 32 = A at *
  obtain ⟨bA0, bA1⟩ := bA
  have bB : 0 ≤ v / 1048576 % 32 ∧ v / 1048576 % 32 < 32 := by omega
  generalize v / 1048576 % 32 = B at *
  obtain ⟨bB0, bB1⟩ := bB
  go_enter Tryd.func86, Tryd.ntmps86
  go_wp2_with fail
  refine (H1.out _).mono ?_
  rintro e w1 ⟨rfl, rfl⟩
  go_wp2_with fail
  refine (H2.out _).mono ?_
  rintro e w2 ⟨rfl, rfl⟩
  go_wp2_with fail
  refine (H3.out _).mono ?_
  rintro e w3 ⟨rfl, rfl⟩
  go_wp2_with fail
  refine (specShC op _).mono ?_
  rintro e w4 ⟨rfl, hb⟩
  have hz : w.heap.size + 2 ≤ w4.heap.size := by have := hb.size; simp at this; omega
  have X4 : Five w4 (w.heap.size + 1) op 0 0 0 0 := Five.below (B := w.heap.size + 2) (by constructor <;> simp) (hb.mono (by simp)) (by omega)
  have R4 : Five w4 w.heap.size 0 0 0 0 0 := Five.below (B := w.heap.size + 2) (by constructor <;> simp) (hb.mono (by simp)) (by omega)
  have B4 : Below w.heap.size w w4 := by
    refine Below.trans ?_ (hb.mono (by first | omega | (simp; done) | (simp; omega)))
    repeat (first | exact Below.refl _ _ | refine Below.setCell ?_ (by first | omega | (simp; done) | (simp; omega)) _ | refine Below.alloc ?_ (by first | omega | (simp; done) | (simp; omega)) _)
  clear hb H1 H2 H3
  obtain ⟨c0, c1, c2, c3, c4, f0, f1, f2, f3, f4⟩ := X4
  obtain ⟨d0, d1, d2, d3, d4, g0, g1, g2, g3, g4⟩ := R4
  go_wp2
  refine bodyPost_ret (v := .agg #[.int .i64 op, .int .i64 D, .int .i64 A, .int .i64 B, .int .i64 0]) (by simp [results, Tryd.results86, go_sem, d0, d1, d2, d3, d4]) rfl ⟨rfl, ?_⟩
  repeat (first | with_reducible exact B4 | refine Below.setCell ?_ (by first | omega | (simp; done) | (simp; omega)) _ | refine bdN ?_ _ | refine Below.drew ?_)
end Go.Proofs.YtbfoopfmjiilcaaDoor

namespace Go.Proofs.YtbfoopfmjiilcaaDoor
open Go.RowKit
set_option linter.unusedVariables false

set_option maxRecDepth 100000 in
set_option maxHeartbeats 8000000 in
theorem tks9 (op v c g h : Int) (v0 : 0 ≤ v) (v1 : v < 4294967296) (hs : shT op = (9, c, g, h)) (w : World) :
    Calls Tryd.prog 86 #[.int .i64 op, .int .i64 v] w fun e w' => e = .returned (.agg #[.int .i64 op, .int .i64 (tkRd 9 v), .int .i64 (tkR1 9 v), .int .i64 (tkR2 9 v), .int .i64 (takeF 9 v)]) ∧ Below w.heap.size w w' := by
  have hsf := shF op 9 c g h hs
  have H1 : Hid (FieIs v 7 5 (v / 128 % 32)) := fie7_5 v
  have H2 : Hid (FieIs v 15 5 (v / 32768 % 32)) := fie15_5 v
  have H3 : Hid (FieIs v 20 5 (v / 1048576 % 32)) := fie20_5 v
  have eD : tkRd 9 v = 0 := by simp [tkRd]
  have eA : tkR1 9 v = 0 := by simp [tkR1]
  have eB : tkR2 9 v = 0 := by simp [tkR2]
  have eT : takeF 9 v = 0 := rfl
  rw [eD, eA, eB, eT]
  clear eD eA eB eT hs
  have bD : 0 ≤ v / 128 % 32 ∧ v / 128 % 32 < 32 := by omega
  generalize v / 128 % 32 = D at *
  obtain ⟨bD0, bD1⟩ := bD
  have bA : 0 ≤ v / 32768 % 32 ∧ v / 32768 % 32 < 32 := by omega
  generalize v / 32768 % 32 = A at *
  obtain ⟨bA0, bA1⟩ := bA
  have bB : 0 ≤ v / 1048576 % 32 ∧ v / 1048576 % 32 < 32 := by omega
  generalize v / 1048576 % 32 = B at *
  obtain ⟨bB0, bB1⟩ := bB
  go_enter Tryd.func86, Tryd.ntmps86
  go_wp2_with fail
  refine (H1.out _).mono ?_
  rintro e w1 ⟨rfl, rfl⟩
  go_wp2_with fail
  refine (H2.out _).mono ?_
  rintro e w2 ⟨rfl, rfl⟩
  go_wp2_with fail
  refine (H3.out _).mono ?_
  rintro e w3 ⟨rfl, rfl⟩
  go_wp2_with fail
  refine (specShC op _).mono ?_
  rintro e w4 ⟨rfl, hb⟩
  have hz : w.heap.size + 2 ≤ w4.heap.size := by have := hb.size; simp at this; omega
  have X4 : Five w4 (w.heap.size + 1) op 0 0 0 0 := Five.below (B := w.heap.size + 2) (by constructor <;> simp) (hb.mono (by simp)) (by omega)
  have R4 : Five w4 w.heap.size 0 0 0 0 0 := Five.below (B := w.heap.size + 2) (by constructor <;> simp) (hb.mono (by simp)) (by omega)
  have B4 : Below w.heap.size w w4 := by
    refine Below.trans ?_ (hb.mono (by first | omega | (simp; done) | (simp; omega)))
    repeat (first | exact Below.refl _ _ | refine Below.setCell ?_ (by first | omega | (simp; done) | (simp; omega)) _ | refine Below.alloc ?_ (by first | omega | (simp; done) | (simp; omega)) _)
  clear hb H1 H2 H3
  obtain ⟨c0, c1, c2, c3, c4, f0, f1, f2, f3, f4⟩ := X4
  obtain ⟨d0, d1, d2, d3, d4, g0, g1, g2, g3, g4⟩ := R4
  go_wp2
  refine bodyPost_ret (v := .agg #[.int .i64 op, .int .i64 0, .int .i64 0, .int .i64 0, .int .i64 0]) (by simp [results, Tryd.results86, go_sem, d0, d1, d2, d3, d4]) rfl ⟨rfl, ?_⟩
  repeat (first | with_reducible exact B4 | refine Below.setCell ?_ (by first | omega | (simp; done) | (simp; omega)) _ | refine bdN ?_ _ | refine Below.drew ?_)
end Go.Proofs.YtbfoopfmjiilcaaDoor

namespace Go.Proofs.YtbfoopfmjiilcaaDoor
open Go.RowKit
set_option linter.unusedVariables false

theorem hit_all (k v f c g h : Int) (k0 : 1 ≤ k) (k1 : k ≤ 64) (v0 : 0 ≤ v) (v1 : v < 4294967296) (hs : shT k = (f, c, g, h)) :
    HitP k v ↔ (v % 128 = c ∧ (3 ≤ f ∧ f ≤ 8 → v / 4096 % 8 = g) ∧ encW f c g h (tkRd f v) (tkR1 f v) (tkR2 f v) (takeF f v) = v) := by
  have hok : shOK f c g h = true := by
    have := shT_ok k k0 k1
    rw [hs] at this
    exact this
  obtain ⟨f0, f1, c0, c1, g0, g1, h0, h1⟩ := sh_bounds hok
  obtain ⟨m1, m2, m3, m4, m5, m9⟩ := sh_more hok
  unfold HitP
  rw [hs]
  rcases (show f = 1 ∨ f = 2 ∨ f = 3 ∨ f = 4 ∨ f = 5 ∨ f = 6 ∨ f = 7 ∨ f = 8 ∨ f = 9 by omega) with rfl | rfl | rfl | rfl | rfl | rfl | rfl | rfl | rfl
  · obtain ⟨rfl, rfl⟩ := m1 rfl
    have H := hit1 c v v0 v1
    show v % 128 = c ↔ _
    rw [show tkRd 1 v = v / 128 % 32 from rfl, show tkR1 1 v = 0 from rfl, show tkR2 1 v = 0 from rfl]
    constructor
    · intro e; exact ⟨e, fun hf => absurd hf.1 (by decide), (H.2 e).2⟩
    · intro e; exact e.1
  · obtain ⟨rfl, rfl⟩ := m2 rfl
    have H := hit2 c v v0 v1
    show v % 128 = c ↔ _
    rw [show tkRd 2 v = v / 128 % 32 from rfl, show tkR1 2 v = 0 from rfl, show tkR2 2 v = 0 from rfl]
    constructor
    · intro e; exact ⟨e, fun hf => absurd hf.1 (by decide), (H.2 e).2⟩
    · intro e; exact e.1
  · obtain rfl := m3 rfl
    have H := hit3 c g v v0 v1
    show v % 128 = c ∧ v / 4096 % 8 = g ↔ _
    rw [show tkRd 3 v = v / 128 % 32 from rfl, show tkR1 3 v = v / 32768 % 32 from rfl, show tkR2 3 v = 0 from rfl]
    constructor
    · intro e; exact ⟨e.1, fun _ => e.2, (H.2 e).2.2⟩
    · intro e; exact ⟨e.1, e.2.1 (by decide)⟩
  · obtain rfl := m4 rfl
    have H := hit4 c g v v0 v1
    show v % 128 = c ∧ v / 4096 % 8 = g ↔ _
    rw [show tkRd 4 v = 0 from rfl, show tkR1 4 v = v / 32768 % 32 from rfl, show tkR2 4 v = v / 1048576 % 32 from rfl]
    constructor
    · intro e; exact ⟨e.1, fun _ => e.2, (H.2 e).2.2⟩
    · intro e; exact ⟨e.1, e.2.1 (by decide)⟩
  · obtain rfl := m5 rfl
    have H := hit5 c g v v0 v1
    show v % 128 = c ∧ v / 4096 % 8 = g ↔ _
    rw [show tkRd 5 v = 0 from rfl, show tkR1 5 v = v / 32768 % 32 from rfl, show tkR2 5 v = v / 1048576 % 32 from rfl]
    constructor
    · intro e; exact ⟨e.1, fun _ => e.2, (H.2 e).2.2⟩
    · intro e; exact ⟨e.1, e.2.1 (by decide)⟩
  · have H := hit6 c g h v v0 v1 h0 h1
    show v % 128 = c ∧ v / 4096 % 8 = g ∧ v / 67108864 = h / 2 ↔ _
    rw [show tkRd 6 v = v / 128 % 32 from rfl, show tkR1 6 v = v / 32768 % 32 from rfl, show tkR2 6 v = 0 from rfl]
    constructor
    · intro e; exact ⟨e.1, fun _ => e.2.1, (H.2 e).2.2⟩
    · intro e; exact H.1 ⟨e.1, e.2.1 (by decide), e.2.2⟩
  · have H := hit7 c g h v v0 v1 h0 h1
    show v % 128 = c ∧ v / 4096 % 8 = g ∧ v / 33554432 = h ↔ _
    rw [show tkRd 7 v = v / 128 % 32 from rfl, show tkR1 7 v = v / 32768 % 32 from rfl, show tkR2 7 v = 0 from rfl]
    constructor
    · intro e; exact ⟨e.1, fun _ => e.2.1, (H.2 e).2.2⟩
    · intro e; exact H.1 ⟨e.1, e.2.1 (by decide), e.2.2⟩
  · have H := hit8 c g h v v0 v1 h0 h1
    show v % 128 = c ∧ v / 4096 % 8 = g ∧ v / 33554432 = h ↔ _
    rw [show tkRd 8 v = v / 128 % 32 from rfl, show tkR1 8 v = v / 32768 % 32 from rfl, show tkR2 8 v = v / 1048576 % 32 from rfl]
    constructor
    · intro e; exact ⟨e.1, fun _ => e.2.1, (H.2 e).2.2⟩
    · intro e; exact H.1 ⟨e.1, e.2.1 (by decide), e.2.2⟩
  · obtain rfl := m9 rfl
    show v = c + 0 * 4096 + h * 1048576 ↔ _
    have e9 : encW 9 c 0 h (tkRd 9 v) (tkR1 9 v) (tkR2 9 v) (takeF 9 v) = c + h * 1048576 := by
      show c + 0 * 4096 + h * 1048576 + 0 * 128 + 0 * 32768 + 0 * 1048576 + 0 = c + h * 1048576
      omega
    rw [e9]
    constructor
    · intro e; exact ⟨by omega, fun hf => absurd hf.2 (by decide), by omega⟩
    · intro e; have := e.2.2; omega

theorem tksC (op f v c g h : Int) (v0 : 0 ≤ v) (v1 : v < 4294967296) (f0 : 1 ≤ f) (f1 : f ≤ 9) (hs : shT op = (f, c, g, h)) (w : World) :
    Calls Tryd.prog 86 #[.int .i64 op, .int .i64 v] w fun e w' => e = .returned (itV op f v) ∧ Below w.heap.size w w' := by
  unfold itV
  rcases (show f = 1 ∨ f = 2 ∨ f = 3 ∨ f = 4 ∨ f = 5 ∨ f = 6 ∨ f = 7 ∨ f = 8 ∨ f = 9 by omega) with rfl | rfl | rfl | rfl | rfl | rfl | rfl | rfl | rfl
  · exact tks1 op v c g h v0 v1 hs w
  · exact tks2 op v c g h v0 v1 hs w
  · exact tks3 op v c g h v0 v1 hs w
  · exact tks4 op v c g h v0 v1 hs w
  · exact tks5 op v c g h v0 v1 hs w
  · exact tks6 op v c g h v0 v1 hs w
  · exact tks7 op v c g h v0 v1 hs w
  · exact tks8 op v c g h v0 v1 hs w
  · exact tks9 op v c g h v0 v1 hs w
end Go.Proofs.YtbfoopfmjiilcaaDoor

namespace Go.Proofs.YtbfoopfmjiilcaaDoor
open Go.RowKit
set_option linter.unusedVariables false

theorem specShCs (op f c g h : Int) (w : World) (hs : shT op = (f, c, g, h)) :
    Calls Tryd.prog 52 #[.int .i64 op] w fun e w' => e = .returned (.agg #[.int .i64 f, .int .i64 c, .int .i64 g, .int .i64 h]) ∧ Below w.heap.size w w' := by
  have := specShC op w
  rw [hs] at this
  exact this

set_option maxRecDepth 100000 in
set_option maxHeartbeats 8000000 in
theorem dmNone (v : Int) (v0 : 0 ≤ v) (v1 : v < 4294967296) (HX0 : Hid (∀ j : Nat, 1 ≤ j → j ≤ 64 → ¬ HitP j v)) (w : World) :
    Calls Tryd.prog 60 #[.int .i64 v] w fun e w' => e = .returned (.tuple #[it0, .bool false]) ∧ Below w.heap.size w w' := by
  go_enter Tryd.func60, Tryd.ntmps60
  go_wp2
  go_loopw [4] (fun t wr => ∃ k : Nat, 1 ≤ k ∧ k ≤ 65 ∧ t = .int .i64 k ∧ Below w.heap.size w wr ∧ w.heap.size + 1 ≤ wr.heap.size ∧ Five wr w.heap.size 0 0 0 0 0) (fun t _ => 65 - (intOf t).toNat)
  case atStart => exact ⟨1, Nat.le_refl _, by omega, rfl, (Below.refl _ _).alloc (Nat.le_refl _) _, by simp, by constructor <;> simp⟩
  case round =>
    obtain ⟨k, hk0, hkn, rfl, hbel, hsz, hR⟩ := hrel
    by_cases hlt : k ≤ 64
    · have hk64 : (k : Int) ≤ 64 := by omega
      have hnk := HX0.out k hk0 hlt
      obtain ⟨⟨f, c, g, h⟩, hs⟩ : ∃ s, s = shT (k : Int) := ⟨_, rfl⟩
      have htest := hit_all k v f c g h (by omega) (by omega) v0 v1 hs.symm
      obtain ⟨⟨f0, f1, _⟩, _⟩ := dec_test k v (by omega) (by omega) v0 v1 f c g h hs.symm
      have HS : Hid (shT (k : Int) = (f, c, g, h)) := hs.symm
      have HR : Hid (rightB k (tkRd f v) (tkR1 f v) (tkR2 f v) (takeF f v) = true) := by
        show _ = _
        unfold rightB
        rw [HS.out, right_taken f v f0 f1, Bool.and_true]
        exact decide_eq_true ⟨by omega, by omega⟩
      clear hs
      go_wp2_with fail
      refine (specShCs k f c g h _ HS.out).mono ?_
      rintro e w3 ⟨rfl, hb3⟩
      have z3 : w.heap.size + 1 ≤ w3.heap.size := Nat.le_trans hsz hb3.size
      have B3 : Below w.heap.size w w3 := hbel.trans (hb3.mono (by omega))
      have R3 := hR.below hb3 (by omega)
      clear hb3 hbel hR hsz
      by_cases a1 : v % 128 = c
      case neg =>
        have b1 : ¬ c = v % 128 := fun e => a1 e.symm
        clear htest HS HR HX0 a1 hnk
        go_wp2
        go_roundw
        case rel => exact ⟨k + 1, by omega, by omega, by go_num, B3.alloc B3.size _, by simp; omega, R3.below ((Below.refl w3.heap.size w3).alloc (Nat.le_refl _) _) (by omega)⟩
        case measure => simp [intOf]; omega
      subst a1
      by_cases a2 : 3 ≤ f ∧ f ≤ 8
      · by_cases a3 : v / 4096 % 8 = g
        case neg =>
          have b3 : ¬ g = v / 4096 % 8 := fun e => a3 e.symm
          clear htest HS HR HX0 hnk a3
          go_wp2_with fail
          refine (spIn f 3 8 _ true (.inl ⟨rfl, a2.1, a2.2⟩)).mono ?_
          rintro e w4 ⟨rfl, rfl⟩
          clear a2
          go_wp2
          go_roundw
          case rel => exact ⟨k + 1, by omega, by omega, by go_num, B3.alloc B3.size _, by simp; omega, R3.below ((Below.refl w3.heap.size w3).alloc (Nat.le_refl _) _) (by omega)⟩
          case measure => simp [intOf]; omega
        have hne : ¬ encW f (v % 128) g h (tkRd f v) (tkR1 f v) (tkR2 f v) (takeF f v) = v := fun e => hnk (htest.2 ⟨rfl, fun _ => a3, e⟩)
        clear htest hnk HX0
        subst a3
        go_wp2_with fail
        refine (spIn f 3 8 _ true (.inl ⟨rfl, a2.1, a2.2⟩)).mono ?_
        rintro e w4 ⟨rfl, rfl⟩
        clear a2
        go_wp2_with fail
        refine (tksC k f v _ _ h v0 v1 f0 f1 HS.out _).mono ?_
        rintro e w5 ⟨rfl, hb5⟩
        have z5 : w.heap.size + 1 ≤ w5.heap.size := by have := hb5.size; simp at this; omega
        have B5 : Below w.heap.size w w5 := (B3.alloc B3.size _).trans (hb5.mono (by simp; omega))
        have R5 : Five w5 w.heap.size 0 0 0 0 0 := (R3.below ((Below.refl w3.heap.size w3).alloc (Nat.le_refl _) _) (by omega)).below hb5 (by simp; omega)
        clear hb5 B3 R3 z3
        unfold itV
        have XX : Hid (∀ x1 x2 x3 x4 : Int, Five (w5.alloc (.cells #[.int .i64 (k : Int), .int .i64 x1, .int .i64 x2, .int .i64 x3, .int .i64 x4] 47)) w5.heap.size k x1 x2 x3 x4) := fun x1 x2 x3 x4 => by constructor <;> simp
        go_wp2_with fail
        refine (rightC k (tkRd f v) (tkR1 f v) (tkR2 f v) (takeF f v) _).mono ?_
        rintro e w6 ⟨rfl, hb6⟩
        rw [HR.out]
        have X6 := (XX.out (tkRd f v) (tkR1 f v) (tkR2 f v) (takeF f v)).below hb6 (by simp)
        have z6 : w5.heap.size + 1 ≤ w6.heap.size := by have := hb6.size; simp at this; omega
        have B6 : Below w.heap.size w w6 := (B5.alloc B5.size _).trans (hb6.mono (by simp; omega))
        have R6 : Five w6 w.heap.size 0 0 0 0 0 := (R5.below ((Below.refl w5.heap.size w5).alloc (Nat.le_refl _) _) (by omega)).below hb6 (by simp; omega)
        clear hb6 B5 R5 XX
        obtain ⟨p0, p1, p2, p3, p4, _, _, _, _, _⟩ := X6
        have X6 : Hid (Five w6 w5.heap.size k (tkRd f v) (tkR1 f v) (tkR2 f v) (takeF f v)) := ⟨p0, p1, p2, p3, p4, by assumption, by assumption, by assumption, by assumption, by assumption⟩
        go_wp2_with fail
        refine (specEncYes k (tkRd f v) (tkR1 f v) (tkR2 f v) (takeF f v) f _ _ h _ HR.out HS.out).mono ?_
        rintro e w7 ⟨rfl, hb7⟩
        have X7 := X6.out.below hb7 (by omega)
        have z7 : w.heap.size + 1 ≤ w7.heap.size := by have := hb7.size; omega
        have B7 : Below w.heap.size w w7 := B6.trans (hb7.mono (by omega))
        have R7 : Five w7 w.heap.size 0 0 0 0 0 := R6.below hb7 (by omega)
        clear hb7 B6 R6 X6 p0 p1 p2 p3 p4 z6 z5 HS HR
        clear X7
        go_wp2
        go_roundw
        case rel => exact ⟨k + 1, by omega, by omega, by go_num, B7, by omega, R7⟩
        case measure => simp [intOf]; omega
      · have a2' : f < 3 ∨ 8 < f := by omega
        have hne : ¬ encW f (v % 128) g h (tkRd f v) (tkR1 f v) (tkR2 f v) (takeF f v) = v := fun e => hnk (htest.2 ⟨rfl, fun hf => absurd hf a2, e⟩)
        clear htest hnk a2 HX0
        go_wp2_with fail
        refine (spIn f 3 8 _ false (.inr ⟨rfl, a2'⟩)).mono ?_
        rintro e w4 ⟨rfl, rfl⟩
        clear a2'
        go_wp2_with fail
        refine (tksC k f v _ _ h v0 v1 f0 f1 HS.out _).mono ?_
        rintro e w5 ⟨rfl, hb5⟩
        have z5 : w.heap.size + 1 ≤ w5.heap.size := by have := hb5.size; simp at this; omega
        have B5 : Below w.heap.size w w5 := (B3.alloc B3.size _).trans (hb5.mono (by simp; omega))
        have R5 : Five w5 w.heap.size 0 0 0 0 0 := (R3.below ((Below.refl w3.heap.size w3).alloc (Nat.le_refl _) _) (by omega)).below hb5 (by simp; omega)
        clear hb5 B3 R3 z3
        unfold itV
        have XX : Hid (∀ x1 x2 x3 x4 : Int, Five (w5.alloc (.cells #[.int .i64 (k : Int), .int .i64 x1, .int .i64 x2, .int .i64 x3, .int .i64 x4] 47)) w5.heap.size k x1 x2 x3 x4) := fun x1 x2 x3 x4 => by constructor <;> simp
        go_wp2_with fail
        refine (rightC k (tkRd f v) (tkR1 f v) (tkR2 f v) (takeF f v) _).mono ?_
        rintro e w6 ⟨rfl, hb6⟩
        rw [HR.out]
        have X6 := (XX.out (tkRd f v) (tkR1 f v) (tkR2 f v) (takeF f v)).below hb6 (by simp)
        have z6 : w5.heap.size + 1 ≤ w6.heap.size := by have := hb6.size; simp at this; omega
        have B6 : Below w.heap.size w w6 := (B5.alloc B5.size _).trans (hb6.mono (by simp; omega))
        have R6 : Five w6 w.heap.size 0 0 0 0 0 := (R5.below ((Below.refl w5.heap.size w5).alloc (Nat.le_refl _) _) (by omega)).below hb6 (by simp; omega)
        clear hb6 B5 R5 XX
        obtain ⟨p0, p1, p2, p3, p4, _, _, _, _, _⟩ := X6
        have X6 : Hid (Five w6 w5.heap.size k (tkRd f v) (tkR1 f v) (tkR2 f v) (takeF f v)) := ⟨p0, p1, p2, p3, p4, by assumption, by assumption, by assumption, by assumption, by assumption⟩
        go_wp2_with fail
        refine (specEncYes k (tkRd f v) (tkR1 f v) (tkR2 f v) (takeF f v) f _ _ h _ HR.out HS.out).mono ?_
        rintro e w7 ⟨rfl, hb7⟩
        have X7 := X6.out.below hb7 (by omega)
        have z7 : w.heap.size + 1 ≤ w7.heap.size := by have := hb7.size; omega
        have B7 : Below w.heap.size w w7 := B6.trans (hb7.mono (by omega))
        have R7 : Five w7 w.heap.size 0 0 0 0 0 := R6.below hb7 (by omega)
        clear hb7 B6 R6 X6 p0 p1 p2 p3 p4 z6 z5 HS HR
        clear X7
        go_wp2
        go_roundw
        case rel => exact ⟨k + 1, by omega, by omega, by go_num, B7, by omega, R7⟩
        case measure => simp [intOf]; omega
    · obtain rfl : k = 65 := by omega
      obtain ⟨d0, d1, d2, d3, d4, g0, g1, g2, g3, g4⟩ := hR
      clear HX0
      go_wp2
      refine bodyPost_ret (v := .tuple #[.agg #[.int .i64 0, .int .i64 0, .int .i64 0, .int .i64 0, .int .i64 0], .bool false]) (by simp [results, Tryd.results60, go_sem, d0, d1, d2, d3, d4]) rfl ⟨rfl, ?_⟩
      repeat (first | with_reducible exact hbel | refine Below.setCell ?_ (by first | omega | (simp; done) | (simp; omega)) _)

set_option maxRecDepth 100000 in
set_option maxHeartbeats 8000000 in
theorem dmYes (v : Int) (v0 : 0 ≤ v) (v1 : v < 4294967296) (n : Nat) (n0 : 1 ≤ n) (n1 : n ≤ 64) (HX0 : Hid (∀ j : Nat, 1 ≤ j → j < n → ¬ HitP j v)) (hyes : Hid (HitP n v)) (F : Int) (hF : Hid ((shT n).1 = F)) (w : World) :
    Calls Tryd.prog 60 #[.int .i64 v] w fun e w' => e = .returned (.tuple #[itV n F v, .bool true]) ∧ Below w.heap.size w w' := by
  go_enter Tryd.func60, Tryd.ntmps60
  go_wp2
  go_loopw [4] (fun t wr => ∃ k : Nat, 1 ≤ k ∧ k ≤ n ∧ t = .int .i64 k ∧ Below w.heap.size w wr ∧ w.heap.size + 1 ≤ wr.heap.size ∧ Five wr w.heap.size 0 0 0 0 0) (fun t _ => n - (intOf t).toNat)
  case atStart => exact ⟨1, Nat.le_refl _, by omega, rfl, (Below.refl _ _).alloc (Nat.le_refl _) _, by simp, by constructor <;> simp⟩
  case round =>
    obtain ⟨k, hk0, hkn, rfl, hbel, hsz, hR⟩ := hrel
    have hk64 : (k : Int) ≤ 64 := by omega
    by_cases hlt : k < n
    · have hnk := HX0.out k hk0 hlt
      clear hyes hF
      obtain ⟨⟨f, c, g, h⟩, hs⟩ : ∃ s, s = shT (k : Int) := ⟨_, rfl⟩
      have htest := hit_all k v f c g h (by omega) (by omega) v0 v1 hs.symm
      obtain ⟨⟨f0, f1, _⟩, _⟩ := dec_test k v (by omega) (by omega) v0 v1 f c g h hs.symm
      have HS : Hid (shT (k : Int) = (f, c, g, h)) := hs.symm
      have HR : Hid (rightB k (tkRd f v) (tkR1 f v) (tkR2 f v) (takeF f v) = true) := by
        show _ = _
        unfold rightB
        rw [HS.out, right_taken f v f0 f1, Bool.and_true]
        exact decide_eq_true ⟨by omega, by omega⟩
      clear hs
      go_wp2_with fail
      refine (specShCs k f c g h _ HS.out).mono ?_
      rintro e w3 ⟨rfl, hb3⟩
      have z3 : w.heap.size + 1 ≤ w3.heap.size := Nat.le_trans hsz hb3.size
      have B3 : Below w.heap.size w w3 := hbel.trans (hb3.mono (by omega))
      have R3 := hR.below hb3 (by omega)
      clear hb3 hbel hR hsz
      by_cases a1 : v % 128 = c
      case neg =>
        have b1 : ¬ c = v % 128 := fun e => a1 e.symm
        clear htest HS HR HX0 a1 hnk
        go_wp2
        go_roundw
        case rel => exact ⟨k + 1, by omega, by omega, by go_num, B3.alloc B3.size _, by simp; omega, R3.below ((Below.refl w3.heap.size w3).alloc (Nat.le_refl _) _) (by omega)⟩
        case measure => simp [intOf]; omega
      subst a1
      by_cases a2 : 3 ≤ f ∧ f ≤ 8
      · by_cases a3 : v / 4096 % 8 = g
        case neg =>
          have b3 : ¬ g = v / 4096 % 8 := fun e => a3 e.symm
          clear htest HS HR HX0 hnk a3
          go_wp2_with fail
          refine (spIn f 3 8 _ true (.inl ⟨rfl, a2.1, a2.2⟩)).mono ?_
          rintro e w4 ⟨rfl, rfl⟩
          clear a2
          go_wp2
          go_roundw
          case rel => exact ⟨k + 1, by omega, by omega, by go_num, B3.alloc B3.size _, by simp; omega, R3.below ((Below.refl w3.heap.size w3).alloc (Nat.le_refl _) _) (by omega)⟩
          case measure => simp [intOf]; omega
        have hne : ¬ encW f (v % 128) g h (tkRd f v) (tkR1 f v) (tkR2 f v) (takeF f v) = v := fun e => hnk (htest.2 ⟨rfl, fun _ => a3, e⟩)
        clear htest hnk HX0
        subst a3
        go_wp2_with fail
        refine (spIn f 3 8 _ true (.inl ⟨rfl, a2.1, a2.2⟩)).mono ?_
        rintro e w4 ⟨rfl, rfl⟩
        clear a2
        go_wp2_with fail
        refine (tksC k f v _ _ h v0 v1 f0 f1 HS.out _).mono ?_
        rintro e w5 ⟨rfl, hb5⟩
        have z5 : w.heap.size + 1 ≤ w5.heap.size := by have := hb5.size; simp at this; omega
        have B5 : Below w.heap.size w w5 := (B3.alloc B3.size _).trans (hb5.mono (by simp; omega))
        have R5 : Five w5 w.heap.size 0 0 0 0 0 := (R3.below ((Below.refl w3.heap.size w3).alloc (Nat.le_refl _) _) (by omega)).below hb5 (by simp; omega)
        clear hb5 B3 R3 z3
        unfold itV
        have XX : Hid (∀ x1 x2 x3 x4 : Int, Five (w5.alloc (.cells #[.int .i64 (k : Int), .int .i64 x1, .int .i64 x2, .int .i64 x3, .int .i64 x4] 47)) w5.heap.size k x1 x2 x3 x4) := fun x1 x2 x3 x4 => by constructor <;> simp
        go_wp2_with fail
        refine (rightC k (tkRd f v) (tkR1 f v) (tkR2 f v) (takeF f v) _).mono ?_
        rintro e w6 ⟨rfl, hb6⟩
        rw [HR.out]
        have X6 := (XX.out (tkRd f v) (tkR1 f v) (tkR2 f v) (takeF f v)).below hb6 (by simp)
        have z6 : w5.heap.size + 1 ≤ w6.heap.size := by have := hb6.size; simp at this; omega
        have B6 : Below w.heap.size w w6 := (B5.alloc B5.size _).trans (hb6.mono (by simp; omega))
        have R6 : Five w6 w.heap.size 0 0 0 0 0 := (R5.below ((Below.refl w5.heap.size w5).alloc (Nat.le_refl _) _) (by omega)).below hb6 (by simp; omega)
        clear hb6 B5 R5 XX
        obtain ⟨p0, p1, p2, p3, p4, _, _, _, _, _⟩ := X6
        have X6 : Hid (Five w6 w5.heap.size k (tkRd f v) (tkR1 f v) (tkR2 f v) (takeF f v)) := ⟨p0, p1, p2, p3, p4, by assumption, by assumption, by assumption, by assumption, by assumption⟩
        go_wp2_with fail
        refine (specEncYes k (tkRd f v) (tkR1 f v) (tkR2 f v) (takeF f v) f _ _ h _ HR.out HS.out).mono ?_
        rintro e w7 ⟨rfl, hb7⟩
        have X7 := X6.out.below hb7 (by omega)
        have z7 : w.heap.size + 1 ≤ w7.heap.size := by have := hb7.size; omega
        have B7 : Below w.heap.size w w7 := B6.trans (hb7.mono (by omega))
        have R7 : Five w7 w.heap.size 0 0 0 0 0 := R6.below hb7 (by omega)
        clear hb7 B6 R6 X6 p0 p1 p2 p3 p4 z6 z5 HS HR
        clear X7
        go_wp2
        go_roundw
        case rel => exact ⟨k + 1, by omega, by omega, by go_num, B7, by omega, R7⟩
        case measure => simp [intOf]; omega
      · have a2' : f < 3 ∨ 8 < f := by omega
        have hne : ¬ encW f (v % 128) g h (tkRd f v) (tkR1 f v) (tkR2 f v) (takeF f v) = v := fun e => hnk (htest.2 ⟨rfl, fun hf => absurd hf a2, e⟩)
        clear htest hnk a2 HX0
        go_wp2_with fail
        refine (spIn f 3 8 _ false (.inr ⟨rfl, a2'⟩)).mono ?_
        rintro e w4 ⟨rfl, rfl⟩
        clear a2'
        go_wp2_with fail
        refine (tksC k f v _ _ h v0 v1 f0 f1 HS.out _).mono ?_
        rintro e w5 ⟨rfl, hb5⟩
        have z5 : w.heap.size + 1 ≤ w5.heap.size := by have := hb5.size; simp at this; omega
        have B5 : Below w.heap.size w w5 := (B3.alloc B3.size _).trans (hb5.mono (by simp; omega))
        have R5 : Five w5 w.heap.size 0 0 0 0 0 := (R3.below ((Below.refl w3.heap.size w3).alloc (Nat.le_refl _) _) (by omega)).below hb5 (by simp; omega)
        clear hb5 B3 R3 z3
        unfold itV
        have XX : Hid (∀ x1 x2 x3 x4 : Int, Five (w5.alloc (.cells #[.int .i64 (k : Int), .int .i64 x1, .int .i64 x2, .int .i64 x3, .int .i64 x4] 47)) w5.heap.size k x1 x2 x3 x4) := fun x1 x2 x3 x4 => by constructor <;> simp
        go_wp2_with fail
        refine (rightC k (tkRd f v) (tkR1 f v) (tkR2 f v) (takeF f v) _).mono ?_
        rintro e w6 ⟨rfl, hb6⟩
        rw [HR.out]
        have X6 := (XX.out (tkRd f v) (tkR1 f v) (tkR2 f v) (takeF f v)).below hb6 (by simp)
        have z6 : w5.heap.size + 1 ≤ w6.heap.size := by have := hb6.size; simp at this; omega
        have B6 : Below w.heap.size w w6 := (B5.alloc B5.size _).trans (hb6.mono (by simp; omega))
        have R6 : Five w6 w.heap.size 0 0 0 0 0 := (R5.below ((Below.refl w5.heap.size w5).alloc (Nat.le_refl _) _) (by omega)).below hb6 (by simp; omega)
        clear hb6 B5 R5 XX
        obtain ⟨p0, p1, p2, p3, p4, _, _, _, _, _⟩ := X6
        have X6 : Hid (Five w6 w5.heap.size k (tkRd f v) (tkR1 f v) (tkR2 f v) (takeF f v)) := ⟨p0, p1, p2, p3, p4, by assumption, by assumption, by assumption, by assumption, by assumption⟩
        go_wp2_with fail
        refine (specEncYes k (tkRd f v) (tkR1 f v) (tkR2 f v) (takeF f v) f _ _ h _ HR.out HS.out).mono ?_
        rintro e w7 ⟨rfl, hb7⟩
        have X7 := X6.out.below hb7 (by omega)
        have z7 : w.heap.size + 1 ≤ w7.heap.size := by have := hb7.size; omega
        have B7 : Below w.heap.size w w7 := B6.trans (hb7.mono (by omega))
        have R7 : Five w7 w.heap.size 0 0 0 0 0 := R6.below hb7 (by omega)
        clear hb7 B6 R6 X6 p0 p1 p2 p3 p4 z6 z5 HS HR
        clear X7
        go_wp2
        go_roundw
        case rel => exact ⟨k + 1, by omega, by omega, by go_num, B7, by omega, R7⟩
        case measure => simp [intOf]; omega
    · obtain rfl : k = n := by omega
      have hnk := hyes.out
      clear HX0 hyes
      obtain ⟨⟨f, c, g, h⟩, hs⟩ : ∃ s, s = shT (k : Int) := ⟨_, rfl⟩
      have htest := hit_all k v f c g h (by omega) (by omega) v0 v1 hs.symm
      obtain ⟨⟨f0, f1, _⟩, _⟩ := dec_test k v (by omega) (by omega) v0 v1 f c g h hs.symm
      have HS : Hid (shT (k : Int) = (f, c, g, h)) := hs.symm
      have HR : Hid (rightB k (tkRd f v) (tkR1 f v) (tkR2 f v) (takeF f v) = true) := by
        show _ = _
        unfold rightB
        rw [HS.out, right_taken f v f0 f1, Bool.and_true]
        exact decide_eq_true ⟨by omega, by omega⟩
      clear hs
      go_wp2_with fail
      refine (specShCs k f c g h _ HS.out).mono ?_
      rintro e w3 ⟨rfl, hb3⟩
      have z3 : w.heap.size + 1 ≤ w3.heap.size := Nat.le_trans hsz hb3.size
      have B3 : Below w.heap.size w w3 := hbel.trans (hb3.mono (by omega))
      have R3 := hR.below hb3 (by omega)
      clear hb3 hbel hR hsz
      obtain ⟨a1, a3, hen⟩ := htest.1 hnk
      obtain rfl : f = F := by have := hF.out; rw [HS.out] at this; exact this
      subst a1
      have HEN : Hid (encW f (v % 128) g h (tkRd f v) (tkR1 f v) (tkR2 f v) (takeF f v) = v) := hen
      clear htest hnk hen hF
      by_cases a2 : 3 ≤ f ∧ f ≤ 8
      · have a4 := a3 a2
        clear a3
        subst a4
        go_wp2_with fail
        refine (spIn f 3 8 _ true (.inl ⟨rfl, a2.1, a2.2⟩)).mono ?_
        rintro e w4 ⟨rfl, rfl⟩
        clear a2
        go_wp2_with fail
        refine (tksC k f v _ _ h v0 v1 f0 f1 HS.out _).mono ?_
        rintro e w5 ⟨rfl, hb5⟩
        have z5 : w.heap.size + 1 ≤ w5.heap.size := by have := hb5.size; simp at this; omega
        have B5 : Below w.heap.size w w5 := (B3.alloc B3.size _).trans (hb5.mono (by simp; omega))
        have R5 : Five w5 w.heap.size 0 0 0 0 0 := (R3.below ((Below.refl w3.heap.size w3).alloc (Nat.le_refl _) _) (by omega)).below hb5 (by simp; omega)
        clear hb5 B3 R3 z3
        unfold itV
        have XX : Hid (∀ x1 x2 x3 x4 : Int, Five (w5.alloc (.cells #[.int .i64 (k : Int), .int .i64 x1, .int .i64 x2, .int .i64 x3, .int .i64 x4] 47)) w5.heap.size k x1 x2 x3 x4) := fun x1 x2 x3 x4 => by constructor <;> simp
        go_wp2_with fail
        refine (rightC k (tkRd f v) (tkR1 f v) (tkR2 f v) (takeF f v) _).mono ?_
        rintro e w6 ⟨rfl, hb6⟩
        rw [HR.out]
        have X6 := (XX.out (tkRd f v) (tkR1 f v) (tkR2 f v) (takeF f v)).below hb6 (by simp)
        have z6 : w5.heap.size + 1 ≤ w6.heap.size := by have := hb6.size; simp at this; omega
        have B6 : Below w.heap.size w w6 := (B5.alloc B5.size _).trans (hb6.mono (by simp; omega))
        have R6 : Five w6 w.heap.size 0 0 0 0 0 := (R5.below ((Below.refl w5.heap.size w5).alloc (Nat.le_refl _) _) (by omega)).below hb6 (by simp; omega)
        clear hb6 B5 R5 XX
        obtain ⟨p0, p1, p2, p3, p4, _, _, _, _, _⟩ := X6
        have X6 : Hid (Five w6 w5.heap.size k (tkRd f v) (tkR1 f v) (tkR2 f v) (takeF f v)) := ⟨p0, p1, p2, p3, p4, by assumption, by assumption, by assumption, by assumption, by assumption⟩
        go_wp2_with fail
        refine (specEncYes k (tkRd f v) (tkR1 f v) (tkR2 f v) (takeF f v) f _ _ h _ HR.out HS.out).mono ?_
        rintro e w7 ⟨rfl, hb7⟩
        have X7 := X6.out.below hb7 (by omega)
        have z7 : w.heap.size + 1 ≤ w7.heap.size := by have := hb7.size; omega
        have B7 : Below w.heap.size w w7 := B6.trans (hb7.mono (by omega))
        have R7 : Five w7 w.heap.size 0 0 0 0 0 := R6.below hb7 (by omega)
        clear hb7 B6 R6 X6 p0 p1 p2 p3 p4 z6 z5 HS HR
        rw [HEN.out]
        clear HEN
        obtain ⟨c0, c1, c2, c3, c4, _, _, _, _, _⟩ := X7
        obtain ⟨d0, d1, d2, d3, d4, g0, g1, g2, g3, g4⟩ := R7
        go_wp2
        refine bodyPost_ret (v := .tuple #[.agg #[.int .i64 (k : Int), .int .i64 (tkRd f v), .int .i64 (tkR1 f v), .int .i64 (tkR2 f v), .int .i64 (takeF f v)], .bool true]) (by simp [results, Tryd.results60, go_sem, d0, d1, d2, d3, d4]) rfl ⟨rfl, ?_⟩
        repeat (first | with_reducible exact B7 | refine Below.setCell ?_ (by first | omega | (simp; done) | (simp; omega)) _)
      · have a2' : f < 3 ∨ 8 < f := by omega
        clear a3 a2
        go_wp2_with fail
        refine (spIn f 3 8 _ false (.inr ⟨rfl, a2'⟩)).mono ?_
        rintro e w4 ⟨rfl, rfl⟩
        clear a2'
        go_wp2_with fail
        refine (tksC k f v _ _ h v0 v1 f0 f1 HS.out _).mono ?_
        rintro e w5 ⟨rfl, hb5⟩
        have z5 : w.heap.size + 1 ≤ w5.heap.size := by have := hb5.size; simp at this; omega
        have B5 : Below w.heap.size w w5 := (B3.alloc B3.size _).trans (hb5.mono (by simp; omega))
        have R5 : Five w5 w.heap.size 0 0 0 0 0 := (R3.below ((Below.refl w3.heap.size w3).alloc (Nat.le_refl _) _) (by omega)).below hb5 (by simp; omega)
        clear hb5 B3 R3 z3
        unfold itV
        have XX : Hid (∀ x1 x2 x3 x4 : Int, Five (w5.alloc (.cells #[.int .i64 (k : Int), .int .i64 x1, .int .i64 x2, .int .i64 x3, .int .i64 x4] 47)) w5.heap.size k x1 x2 x3 x4) := fun x1 x2 x3 x4 => by constructor <;> simp
        go_wp2_with fail
        refine (rightC k (tkRd f v) (tkR1 f v) (tkR2 f v) (takeF f v) _).mono ?_
        rintro e w6 ⟨rfl, hb6⟩
        rw [HR.out]
        have X6 := (XX.out (tkRd f v) (tkR1 f v) (tkR2 f v) (takeF f v)).below hb6 (by simp)
        have z6 : w5.heap.size + 1 ≤ w6.heap.size := by have := hb6.size; simp at this; omega
        have B6 : Below w.heap.size w w6 := (B5.alloc B5.size _).trans (hb6.mono (by simp; omega))
        have R6 : Five w6 w.heap.size 0 0 0 0 0 := (R5.below ((Below.refl w5.heap.size w5).alloc (Nat.le_refl _) _) (by omega)).below hb6 (by simp; omega)
        clear hb6 B5 R5 XX
        obtain ⟨p0, p1, p2, p3, p4, _, _, _, _, _⟩ := X6
        have X6 : Hid (Five w6 w5.heap.size k (tkRd f v) (tkR1 f v) (tkR2 f v) (takeF f v)) := ⟨p0, p1, p2, p3, p4, by assumption, by assumption, by assumption, by assumption, by assumption⟩
        go_wp2_with fail
        refine (specEncYes k (tkRd f v) (tkR1 f v) (tkR2 f v) (takeF f v) f _ _ h _ HR.out HS.out).mono ?_
        rintro e w7 ⟨rfl, hb7⟩
        have X7 := X6.out.below hb7 (by omega)
        have z7 : w.heap.size + 1 ≤ w7.heap.size := by have := hb7.size; omega
        have B7 : Below w.heap.size w w7 := B6.trans (hb7.mono (by omega))
        have R7 : Five w7 w.heap.size 0 0 0 0 0 := R6.below hb7 (by omega)
        clear hb7 B6 R6 X6 p0 p1 p2 p3 p4 z6 z5 HS HR
        rw [HEN.out]
        clear HEN
        obtain ⟨c0, c1, c2, c3, c4, _, _, _, _, _⟩ := X7
        obtain ⟨d0, d1, d2, d3, d4, g0, g1, g2, g3, g4⟩ := R7
        go_wp2
        refine bodyPost_ret (v := .tuple #[.agg #[.int .i64 (k : Int), .int .i64 (tkRd f v), .int .i64 (tkR1 f v), .int .i64 (tkR2 f v), .int .i64 (takeF f v)], .bool true]) (by simp [results, Tryd.results60, go_sem, d0, d1, d2, d3, d4]) rfl ⟨rfl, ?_⟩
        repeat (first | with_reducible exact B7 | refine Below.setCell ?_ (by first | omega | (simp; done) | (simp; omega)) _)
end Go.Proofs.YtbfoopfmjiilcaaDoor

namespace Go.Proofs.YtbfoopfmjiilcaaDoor
open Go.RowKit
set_option linter.unusedVariables false

def DmIs (v a0 a1 a2 a3 a4 : Int) (b : Bool) : Prop := ∀ w, Calls Tryd.prog 60 #[.int .i64 v] w fun e w' => e = .returned (.tuple #[.agg #[.int .i64 a0, .int .i64 a1, .int .i64 a2, .int .i64 a3, .int .i64 a4], .bool b]) ∧ Below w.heap.size w w'

/-- The first Op that a word has, if there is one. -/
theorem first_hit (v : Int) : (∀ j : Nat, 1 ≤ j → j ≤ 64 → ¬ HitP j v) ∨ ∃ n : Nat, 1 ≤ n ∧ n ≤ 64 ∧ (∀ j : Nat, 1 ≤ j → j < n → ¬ HitP j v) ∧ HitP n v := by
  have key : ∀ m : Nat, (∀ j : Nat, 1 ≤ j → j ≤ m → ¬ HitP j v) ∨ ∃ n : Nat, 1 ≤ n ∧ n ≤ m ∧ (∀ j : Nat, 1 ≤ j → j < n → ¬ HitP j v) ∧ HitP n v := by
    intro m
    induction m with
    | zero => exact .inl (fun j h0 h1 => by omega)
    | succ m ih =>
      rcases ih with h | ⟨n, h0, h1, h2, h3⟩
      · by_cases hh : HitP ((m + 1 : Nat) : Int) v
        · exact .inr ⟨m + 1, by omega, Nat.le_refl _, fun j j0 j1 => h j j0 (by omega), hh⟩
        · refine .inl (fun j j0 j1 => ?_)
          by_cases e : j = m + 1
          · subst e; exact hh
          · exact h j j0 (by omega)
      · exact .inr ⟨n, h0, by omega, h2, h3⟩
  exact key 64

theorem eqInstrC (a0 a1 a2 a3 a4 : Int) (w : World) :
    Calls Tryd.prog 32 #[.agg #[.int .i64 a0, .int .i64 a1, .int .i64 a2, .int .i64 a3, .int .i64 a4], .agg #[.int .i64 a0, .int .i64 a1, .int .i64 a2, .int .i64 a3, .int .i64 a4]] w fun e w' => e = .returned (.bool true) ∧ Below w.heap.size w w' := by
  go_enter Tryd.func32, Tryd.ntmps32
  go_wp2
  go_ret
  exact ⟨rfl, ((Below.refl _ _).alloc (Nat.le_refl _) _).alloc (by simp) _⟩
end Go.Proofs.YtbfoopfmjiilcaaDoor

namespace Go.Proofs.YtbfoopfmjiilcaaDoor
open Go.RowKit
set_option linter.unusedVariables false

def widthOK (n : Int) : Prop := n = 1 ∨ n = 2 ∨ n = 4 ∨ n = 8
theorem ret_two {a b : List UInt8} {x y : Int} (h : a = b) (k : x = y) : Ending.returned (.tuple #[.string ⟨a.toArray⟩, .int .i64 x]) = .returned (.tuple #[.string ⟨b.toArray⟩, .int .i64 y]) := by rw [h, k]

end Go.Proofs.YtbfoopfmjiilcaaDoor

namespace Go.Proofs.YtbfoopfmjiilcaaDoor

/-- The number that the bytes f 0, f 1 .. are, the lowest one first. -/
def valF (f : Nat → UInt8) : Nat → Nat
  | 0 => 0
  | n + 1 => valF f n + (f n).toNat * 256 ^ n

theorem valF_lt (f : Nat → UInt8) (n : Nat) : valF f n < 256 ^ n := by
  induction n with
  | zero => simp [valF]
  | succ n ih =>
    have hf := (f n).toNat_lt
    have : (f n).toNat * 256 ^ n ≤ 255 * 256 ^ n := Nat.mul_le_mul_right _ (by omega)
    rw [valF, Nat.pow_succ]
    omega

theorem valF_congr (f g : Nat → UInt8) : ∀ n, (∀ i, i < n → f i = g i) → valF f n = valF g n
  | 0, _ => rfl
  | n + 1, h => by rw [valF, valF, valF_congr f g n (fun i hi => h i (by omega)), h n (by omega)]

theorem valF_horner (f : Nat → UInt8) (n k o : Nat) (h : valF f n = valF f (k + 1) + 256 ^ (k + 1) * o) : valF f n = valF f k + 256 ^ k * (256 * o + (f k).toNat) := by
  rw [h, valF, Nat.pow_succ, Nat.mul_add, Nat.mul_comm (f k).toNat, Nat.mul_assoc]
  omega

theorem horner_bd (f : Nat → UInt8) (n k o : Nat) (hn : n ≤ 8) (h : valF f n = valF f (k + 1) + 256 ^ (k + 1) * o) : o ≤ 72057594037927935 := by
  have h1 := valF_lt f n
  have h2 : 256 ^ n ≤ 256 ^ 8 := Nat.pow_le_pow_right (by decide) hn
  have h3 : 256 ^ 1 ≤ 256 ^ (k + 1) := Nat.pow_le_pow_right (by decide) (by omega)
  have h4 : 256 * o ≤ 256 ^ (k + 1) * o := Nat.mul_le_mul_right _ (by simpa using h3)
  have h5 : (256 : Nat) ^ 8 = 18446744073709551616 := by decide
  omega

theorem or_up (v c k : Nat) (h : v < 2 ^ k) : v ||| c * 2 ^ k = v + c * 2 ^ k := by
  rw [Nat.or_comm, ← Nat.shiftLeft_eq, ← Nat.shiftLeft_add_eq_or_of_lt h]
  omega
theorem pow_256 (k : Nat) : (256 : Nat) ^ k = 2 ^ (8 * k) := by
  rw [Nat.pow_mul]

theorem or_u8 (v c k : Nat) (hk : k < 1) (hv : v < 256 ^ k) (hc : c < 256) : bits .or .u8 (v : Int) (IntKind.u8.wrap ((c : Int) * 2 ^ (8 * k))) = ((v + c * 256 ^ k : Nat) : Int) := by
  have h1 : 256 ^ k * 256 ≤ 256 ^ 1 := by rw [← Nat.pow_succ]; exact Nat.pow_le_pow_right (by decide) hk
  have h2 : c * 256 ^ k < 256 ^ k * 256 := by
    rw [Nat.mul_comm]
    exact Nat.mul_lt_mul_of_pos_left hc (Nat.pow_pos (by decide))
  have h5 : (256 : Nat) ^ 1 = 256 := by decide
  have e2 : (c : Int) * 2 ^ (8 * k) = ((c * 256 ^ k : Nat) : Int) := by
    rw [pow_256]
    simp
  have e3 : IntKind.u8.wrap ((c * 256 ^ k : Nat) : Int) = ((c * 256 ^ k : Nat) : Int) := by
    show ((c * 256 ^ k : Nat) : Int) % 256 = _
    omega
  rw [e2, e3, u8_or_nat _ _ (by omega) (by omega), pow_256, or_up v c (8 * k) (by rw [← pow_256]; exact hv)]

theorem or_u16 (v c k : Nat) (hk : k < 2) (hv : v < 256 ^ k) (hc : c < 256) : bits .or .u16 (v : Int) (IntKind.u16.wrap (IntKind.u16.wrap (c : Int) * 2 ^ (8 * k))) = ((v + c * 256 ^ k : Nat) : Int) := by
  have h1 : 256 ^ k * 256 ≤ 256 ^ 2 := by rw [← Nat.pow_succ]; exact Nat.pow_le_pow_right (by decide) hk
  have h2 : c * 256 ^ k < 256 ^ k * 256 := by
    rw [Nat.mul_comm]
    exact Nat.mul_lt_mul_of_pos_left hc (Nat.pow_pos (by decide))
  have h5 : (256 : Nat) ^ 2 = 65536 := by decide
  have e1 : IntKind.u16.wrap (c : Int) = (c : Int) := by
    show (c : Int) % 65536 = _
    omega
  have e2 : (c : Int) * 2 ^ (8 * k) = ((c * 256 ^ k : Nat) : Int) := by
    rw [pow_256]
    simp
  have e3 : IntKind.u16.wrap ((c * 256 ^ k : Nat) : Int) = ((c * 256 ^ k : Nat) : Int) := by
    show ((c * 256 ^ k : Nat) : Int) % 65536 = _
    omega
  rw [e1, e2, e3, u16_or_nat _ _ (by omega) (by omega), pow_256, or_up v c (8 * k) (by rw [← pow_256]; exact hv)]

theorem or_u32 (v c k : Nat) (hk : k < 4) (hv : v < 256 ^ k) (hc : c < 256) : bits .or .u32 (v : Int) (IntKind.u32.wrap (IntKind.u32.wrap (c : Int) * 2 ^ (8 * k))) = ((v + c * 256 ^ k : Nat) : Int) := by
  have h1 : 256 ^ k * 256 ≤ 256 ^ 4 := by rw [← Nat.pow_succ]; exact Nat.pow_le_pow_right (by decide) hk
  have h2 : c * 256 ^ k < 256 ^ k * 256 := by
    rw [Nat.mul_comm]
    exact Nat.mul_lt_mul_of_pos_left hc (Nat.pow_pos (by decide))
  have h5 : (256 : Nat) ^ 4 = 4294967296 := by decide
  have e1 : IntKind.u32.wrap (c : Int) = (c : Int) := by
    show (c : Int) % 4294967296 = _
    omega
  have e2 : (c : Int) * 2 ^ (8 * k) = ((c * 256 ^ k : Nat) : Int) := by
    rw [pow_256]
    simp
  have e3 : IntKind.u32.wrap ((c * 256 ^ k : Nat) : Int) = ((c * 256 ^ k : Nat) : Int) := by
    show ((c * 256 ^ k : Nat) : Int) % 4294967296 = _
    omega
  rw [e1, e2, e3, u32_or_nat _ _ (by omega) (by omega), pow_256, or_up v c (8 * k) (by rw [← pow_256]; exact hv)]

theorem or_u64 (v c k : Nat) (hk : k < 8) (hv : v < 256 ^ k) (hc : c < 256) : bits .or .u64 (v : Int) (IntKind.u64.wrap (IntKind.u64.wrap (c : Int) * 2 ^ (8 * k))) = ((v + c * 256 ^ k : Nat) : Int) := by
  have h1 : 256 ^ k * 256 ≤ 256 ^ 8 := by rw [← Nat.pow_succ]; exact Nat.pow_le_pow_right (by decide) hk
  have h2 : c * 256 ^ k < 256 ^ k * 256 := by
    rw [Nat.mul_comm]
    exact Nat.mul_lt_mul_of_pos_left hc (Nat.pow_pos (by decide))
  have h5 : (256 : Nat) ^ 8 = 18446744073709551616 := by decide
  have e1 : IntKind.u64.wrap (c : Int) = (c : Int) := by
    show (c : Int) % 18446744073709551616 = _
    omega
  have e2 : (c : Int) * 2 ^ (8 * k) = ((c * 256 ^ k : Nat) : Int) := by
    rw [pow_256]
    simp
  have e3 : IntKind.u64.wrap ((c * 256 ^ k : Nat) : Int) = ((c * 256 ^ k : Nat) : Int) := by
    show ((c * 256 ^ k : Nat) : Int) % 18446744073709551616 = _
    omega
  rw [e1, e2, e3, u64_or_nat _ _ (by omega) (by omega), pow_256, or_up v c (8 * k) (by rw [← pow_256]; exact hv)]
end Go.Proofs.YtbfoopfmjiilcaaDoor

namespace Go.Proofs.YtbfoopfmjiilcaaDoor
open Go.RowKit
set_option linter.unusedVariables false

/-- The byte at a place of a text. -/
def bt (s : ByteArray) (i : Nat) : UInt8 := s.data.toList.getD i 0
theorem bt_eq (s : ByteArray) (i : Nat) (h : i < s.size) : s[i] = bt s i := by
  have hl : s.data.toList.length = s.size := by rw [Array.length_toList]; rfl
  show s.data[i] = _
  unfold bt
  simp [List.getD, h]

set_option maxRecDepth 100000 in
set_option maxHeartbeats 1000000 in
theorem gather_u32 (s : ByteArray) (w : World) (hs : s.size ≤ 4) :
    Calls Tryd.prog 89 #[.string s] w fun e w' => e = .returned (.int .u32 (valF (bt s) s.size : Nat)) ∧ w' = w := by
  go_enter Tryd.func89, Tryd.ntmps89
  go_wp2
  go_loop [3, 7] (fun x t => ∃ k v : Nat, k ≤ s.size ∧ t = .int .i64 k ∧ x = .int .u32 v ∧ Hid (v = valF (bt s) k)) (fun _ t => s.size - (intOf t).toNat)
  case atStart => exact ⟨0, 0, Nat.zero_le _, rfl, rfl, rfl⟩
  case round =>
    obtain ⟨k, v, hk, rfl, rfl, hv⟩ := hrel
    by_cases hlt : k < s.size
    · have hor := or_u32 v s[k].toNat k (by omega) (by rw [hv.out]; exact valF_lt _ _) s[k].toNat_lt
      obtain ⟨u, hu⟩ : ∃ u, u = v + s[k].toNat * 256 ^ k := ⟨_, rfl⟩
      rw [← hu] at hor
      have hor2 : bits .or .u32 (v : Int) (((s[k].toNat : Nat) : Int) % 4294967296 * 2 ^ (8 * k) % 4294967296) = (u : Int) := hor
      have HU : Hid (u = valF (bt s) (k + 1)) := by
        show u = _
        rw [hu, hv.out, valF, bt_eq s k hlt]
      clear hu
      go_wp2
      go_round
      case rel => exact ⟨k + 1, u, by omega, by go_num, rfl, HU⟩
      case measure => simp [intOf]; omega
    · obtain rfl : k = s.size := by omega
      go_wp2
      go_ret
      exact ⟨congrArg (fun x : Nat => Ending.returned (.int .u32 (x : Int))) hv.out, rfl⟩

end Go.Proofs.YtbfoopfmjiilcaaDoor

namespace Go.Proofs.YtbfoopfmjiilcaaDoor
open Go.RowKit
set_option linter.unusedVariables false

theorem specIn (x low high : Int) (w : World) (b : Bool) (h : (b = true ∧ low ≤ x ∧ x ≤ high) ∨ (b = false ∧ (x < low ∨ high < x))) :
    Calls Tryd.prog 41 #[.int .i64 x, .int .i64 low, .int .i64 high] w fun e w' => e = .returned (.bool b) ∧ w' = w := by
  rcases h with ⟨rfl, h0, h1⟩ | ⟨rfl, h⟩
  · go_enter Tryd.func41, Tryd.ntmps41
    go_wp2
    go_ret
    refine ⟨congrArg (fun x => Ending.returned (.bool x)) ?_, rfl⟩
    first | rfl | (simp; done) | (simp; omega)
  · by_cases h0 : x < low
    · go_enter Tryd.func41, Tryd.ntmps41
      go_wp2
      go_ret
      refine ⟨congrArg (fun x => Ending.returned (.bool x)) ?_, rfl⟩
      first | rfl | (simp; done) | (simp; omega)
    · have h1 : high < x := by omega
      clear h
      go_enter Tryd.func41, Tryd.ntmps41
      go_wp2
      go_ret
      refine ⟨congrArg (fun x => Ending.returned (.bool x)) ?_, rfl⟩
      first | rfl | (simp; done) | (simp; omega)

end Go.Proofs.YtbfoopfmjiilcaaDoor

namespace Go.Proofs.YtbfoopfmjiilcaaDoor
open Go.RowKit
set_option linter.unusedVariables false

theorem cut_size (t : ByteArray) (a n : Nat) (h : a + n ≤ t.size) : (t.extract a (a + n)).size = n := by
  rw [ByteArray.size_extract]; omega
theorem cut_bt (t : ByteArray) (a n i : Nat) (h : a + n ≤ t.size) (hi : i < n) : bt (t.extract a (a + n)) i = bt t (a + i) := by
  rw [← bt_eq (t.extract a (a + n)) i (by rw [cut_size t a n h]; exact hi), ← bt_eq t (a + i) (by omega)]
  exact ByteArray.getElem_extract _
theorem cut_val (t : ByteArray) (a n : Nat) (h : a + n ≤ t.size) : valF (bt (t.extract a (a + n))) (t.extract a (a + n)).size = valF (fun i => bt t (a + i)) n := by
  rw [cut_size t a n h]
  exact valF_congr _ _ n (fun i hi => cut_bt t a n i h hi)

/-- The number that both answer. -/
def takeV (t : ByteArray) (a n : Nat) : Int := IntKind.i64.wrap (valF (fun i => bt t (a + i)) n : Nat)

theorem takeV_small (t : ByteArray) (a n : Nat) (h : n ≤ 4) : takeV t a n = (valF (fun i => bt t (a + i)) n : Nat) := by
  have h1 := valF_lt (fun i => bt t (a + i)) n
  have h2 : 256 ^ n ≤ 256 ^ 4 := Nat.pow_le_pow_right (by decide) h
  have h3 : (256 : Nat) ^ 4 = 4294967296 := by decide
  unfold takeV
  rw [IntKind.wrap_i64]
  omega

set_option maxRecDepth 100000 in
set_option maxHeartbeats 1000000 in
theorem specTake0 (t : ByteArray) (a n : Nat) (w : World) (ht : t.size ≤ 65536) (hn : n ≤ 8) (h : a + n ≤ t.size) :
    Calls Tryd.prog 61 #[.string t, .int .i64 a, .int .i64 n] w fun e w' => e = .returned (.int .i64 (takeV t a n)) ∧ w' = w := by
  go_enter Tryd.func61, Tryd.ntmps61
  go_wp2
  go_loop [7, 8] (fun x i => ∃ k o : Nat, k ≤ n ∧ i = .int .i64 ((k : Int) - 1) ∧ x = .int .u64 (o : Int) ∧ Hid (valF (fun i => bt t (a + i)) n = valF (fun i => bt t (a + i)) k + 256 ^ k * o)) (fun _ i => (intOf i + 1).toNat)
  case atStart => exact ⟨n, 0, Nat.le_refl _, rfl, rfl, by show _ = _; omega⟩
  case round =>
    obtain ⟨k, o, hk, rfl, rfl, ho⟩ := hrel
    by_cases hlt : 1 ≤ k
    · obtain ⟨j, rfl⟩ : ∃ j, k = j + 1 := ⟨k - 1, by omega⟩
      have hol := horner_bd _ n j o hn ho.out
      have HST : Hid (valF (fun i => bt t (a + i)) n = valF (fun i => bt t (a + i)) j + 256 ^ j * (256 * o + (bt t (a + j)).toNat)) := valF_horner _ n j o ho.out
      clear ho
      have ej : ((j + 1 : Nat) : Int) - 1 = (j : Int) := by omega
      have hlt2 : a + j < t.size := by omega
      rw [← bt_eq t (a + j) hlt2] at HST
      have hbyte := t[a + j].toNat_lt
      go_wp2
      go_round
      case rel => exact ⟨j, 256 * o + t[a + j].toNat, by omega, rfl, by go_num, HST⟩
      case measure => simp [intOf]
    · obtain rfl : k = 0 := by omega
      have hz : IntKind.i64.wrap (o : Int) = takeV t a n := by
        unfold takeV
        rw [ho.out]
        simp [valF]
      clear ho
      go_wp2
      go_ret
      exact ⟨rfl, rfl⟩

end Go.Proofs.YtbfoopfmjiilcaaDoor

namespace Go.Proofs.YtbfoopfmjiilcaaDoor
open Go Go.RowKit
set_option linter.unusedVariables false
attribute [local go_sem] Oper.semAt_some

/-- The k-th word of a run. -/
def wrd (s : ByteArray) (k : Nat) : Nat := valF (fun i => bt s (4 * k + i)) 4
theorem wrd_lt (s : ByteArray) (k : Nat) : wrd s k < 4294967296 := valF_lt _ 4
/-- What is left of a run behind k words. -/
structure Tail (s : ByteArray) (k : Nat) (t : ByteArray) : Prop where
  size : t.size + 4 * k = s.size
  byte : ∀ i, i < t.size → bt t i = bt s (4 * k + i)
theorem Tail.start (s : ByteArray) : Tail s 0 s := ⟨rfl, fun i _ => by rw [Nat.mul_zero, Nat.zero_add]⟩
theorem Tail.head {s t : ByteArray} {k : Nat} (h : Tail s k t) (h4 : 4 ≤ t.size) : valF (bt (t.extract 0 4)) (t.extract 0 4).size = wrd s k := by
  have h1 := cut_val t 0 4 (by omega)
  rw [Nat.zero_add] at h1
  rw [h1]
  exact valF_congr _ _ 4 (fun i hi => by rw [Nat.zero_add]; exact h.byte i (by omega))
theorem Tail.next {s t : ByteArray} {k : Nat} (h : Tail s k t) (h4 : 4 ≤ t.size) : Tail s (k + 1) (t.extract 4 t.size) := by
  obtain ⟨m, hm⟩ : ∃ m, t.size = 4 + m := ⟨t.size - 4, by omega⟩
  have hs : (t.extract 4 t.size).size = m := by rw [ByteArray.size_extract]; omega
  refine ⟨by rw [hs]; have := h.size; omega, fun i hi => ?_⟩
  rw [hs] at hi
  have h1 := cut_bt t 4 m i (by omega) hi
  rw [← hm] at h1
  rw [h1, h.byte (4 + i) (by omega)]
  congr 1; omega

def leftOf (Bc : Nat) (W : World) : Nat := match W.cell? ⟨Bc, 0, none⟩ with
  | some (.string t) => t.size
  | _ => 0
theorem leftOf_eq {W : World} {Bc ty : Nat} {t : ByteArray} (h : Boxed W Bc ty (.string t)) : leftOf Bc W = t.size := by
  unfold leftOf
  rw [h.cell]

/-- What a word is: an instruction and its code. -/
def DecIs (v : Nat) (R : Nat → Int) (k : Nat) (co : Int) : Prop := ∀ w, Laid w → Calls Tryd.prog 88 #[.int .i64 v] w fun e w' => e = .returned (.tuple #[.agg #[.int .i64 (R (k * 5)), .int .i64 (R (k * 5 + 1)), .int .i64 (R (k * 5 + 2)), .int .i64 (R (k * 5 + 3)), .int .i64 (R (k * 5 + 4))], .int .i64 co]) ∧ Below w.heap.size w w'

set_option maxRecDepth 100000 in
set_option maxHeartbeats 2000000 in
theorem insSeq (s : ByteArray) (N : Nat) (hs : s.size = 4 * N) (hN : N ≤ 16384) (R : Nat → Int) (co : Nat → Int) (hd : ∀ k, k < N → Hid (DecIs (wrd s k) R k (co k))) (n n₀ Bc : Nat) (w : World) (hl : Laid w) (hw0 : n₀ ≤ w.heap.size) (hL : ∀ W, Below n₀ w W → Laid W) (hB : Bc < w.heap.size) (hn : n₀ ≤ Bc)
    (hc : Boxed w Bc 9 (.string s)) :
    CellSeq Fence.wide n Tryd.prog 87 #[.pointer (some ⟨Bc, 0, none⟩)] (fun k => #[.agg #[.int .i64 (R (k * 5)), .int .i64 (R (k * 5 + 1)), .int .i64 (R (k * 5 + 2)), .int .i64 (R (k * 5 + 3)), .int .i64 (R (k * 5 + 4))], .int .i64 (co k)]) n₀ Bc N w := by
  intro l J Jx W hJ hY hK h0
  refine callsIn_of_wp Tryd.func87 rfl trivial ?_ rfl
  simp only [Tryd.ntmps87, List.size_toArray, List.length_cons, List.length_nil, Nat.reduceAdd, Nat.reduceSub, Array.replicate_succ, Array.replicate_zero, List.push_toArray, List.append_toArray, List.nil_append, List.cons_append]
  gi_wp2
  gi_loopw [3] (fun _ wr => ∃ (k : Nat) (t : ByteArray), k ≤ N ∧ Tail s k t ∧ J k wr ∧ Below n₀ w wr ∧ Boxed wr Bc 9 (.string t)) (fun _ wr => leftOf Bc wr)
  case atStart => exact ⟨0, s, Nat.zero_le _, Tail.start s, h0, hK.1, hK.2.trans hc⟩
  case round =>
    obtain ⟨k, t, hk, ht, hj, hb, hx⟩ := hrel
    have hts := ht.size
    have hxc := hx.cell
    have hxf := hx.frozen
    by_cases hlt : k < N
    · have h4 : 4 ≤ t.size := by omega
      have hsz : (t.extract 0 4).size ≤ 4 := by rw [ByteArray.size_extract]; omega
      have hv := ht.head h4
      have hv1 := wrd_lt s k
      have hdk := (hd k hlt).out
      obtain ⟨v, hvv⟩ : ∃ v, wrd s k = v := ⟨_, rfl⟩
      rw [hvv] at hv hv1 hdk
      have h4' : (4 : Int) ≤ t.size := by omega
      have hv2 : (v : Int) < 4294967296 := by omega
      gi_wp2_with (refine ⟨trivial, fun h => (by cases h), ?_⟩; gi_at_call 89; refine (callsIn_wide.2 (gather_u32 _ _ hsz)).mono ?_; rintro e w' ⟨rfl, rfl⟩; rw [hv])
      refine ⟨trivial, fun h => (by cases h), ?_⟩
      refine (callsIn_wide.2 (hdk _ (hL _ hb))).mono ?_
      rintro e w2 ⟨rfl, hb2⟩
      have hb3 := hb.trans (hb2.mono (Nat.le_trans hw0 hb.size))
      have hg2 : w'.grownBy w2 (some Bc) := ⟨hb2.os, hb2.tape, hb2.output, hb2.size, fun i hi _ => hb2.block i hi⟩
      have hj2 := hJ k w' w2 hj hg2
      have hx2 : Boxed w2 Bc 9 (.string t) := (hb2.block Bc hx.lt).trans hx
      have HL : Hid (leftOf Bc w' = t.size) := leftOf_eq hx
      clear hj hg2 hb hx hxc hxf hb2
      obtain ⟨fn, tmps, assign, body, hy, hR⟩ := hY k w2 hlt hj2
      gi_wp2
      refine ⟨fun h => (by cases h), hR.mono ?_⟩
      rintro e W3 (⟨rfl, hj3, hk3⟩ | ⟨rfl, hj3⟩)
      · have hx3 : Boxed W3 Bc 9 (.string t) := hk3.2.trans hx2
        have hxc := hx3.cell
        have hxf := hx3.frozen
        have hx4 := hx3.set (.string (t.extract 4 t.size))
        have hj4 := hJ (k + 1) W3 _ hj3 (grownBy_setCell' W3 Bc (.string (t.extract 4 t.size)))
        have hb4 := (hb3.trans hk3.1).setCell (p := ⟨Bc, 0, none⟩) hn (.string (t.extract 4 t.size))
        have hle := leftOf_eq hx4
        have hes : (t.extract 4 t.size).size = t.size - 4 := by rw [ByteArray.size_extract]; omega
        gi_wp2
        go_roundw
        case rel => exact ⟨k + 1, _, by omega, ht.next h4, hj4, hb4, hx4⟩
        case measure => rw [hle, HL.out, hes]; omega
      · gi_wp2
        refine bodyPost_ret (results_none rfl _ _ _) rfl ?_
        exact ⟨⟨_, rfl⟩, .inr hj3⟩
    · have h4 : t.size < 4 := by omega
      have h4' : (t.size : Int) < 4 := by omega
      obtain rfl : k = N := by omega
      gi_wp2
      go_end0
      exact ⟨⟨_, rfl⟩, .inl hj⟩
end Go.Proofs.YtbfoopfmjiilcaaDoor

namespace Go.Proofs.YtbfoopfmjiilcaaDoor
open Go Go.RowKit
set_option linter.unusedVariables false
attribute [local go_sem] Oper.semAt_some
theorem Tryd.info_inr : (Tryd.prog.info? 47).map (fun i => (i.zero, i.size, i.bytes)) = some (some (.agg #[.int .i64 0, .int .i64 0, .int .i64 0, .int .i64 0, .int .i64 0]), 5, 40) := by kernel_rfl

/-- The cells of the first n instructions. -/
def cellsR (R : Nat → Int) (n : Nat) : List Value := (List.range (n * 5)).map fun i => .int .i64 (R i)
theorem cellsR_succ (R : Nat → Int) (n : Nat) : cellsR R (n + 1) = cellsR R n ++ [.int .i64 (R (n * 5)), .int .i64 (R (n * 5 + 1)), .int .i64 (R (n * 5 + 2)), .int .i64 (R (n * 5 + 3)), .int .i64 (R (n * 5 + 4))] := by
  unfold cellsR
  rw [show (n + 1) * 5 = n * 5 + 1 + 1 + 1 + 1 + 1 from by omega, List.range_succ, List.range_succ, List.range_succ, List.range_succ, List.range_succ]
  simp
theorem cellsR_len (R : Nat → Int) (n : Nat) : (cellsR R n).length = n * 5 := by simp [cellsR]

/-- A list of n instructions of the call's own. -/
def OwnL (w : World) (B : Nat) (p : Option Addr) (n : Nat) (R : Nat → Int) : Prop := n = 0 ∨ ∃ g, p = some ⟨g, 0, none⟩ ∧ B ≤ g ∧ g < w.heap.size ∧ Flat w g 0 (n * 5) R
theorem OwnL.list {w : World} {B : Nat} {p : Option Addr} {n : Nat} {R : Nat → Int} (h : OwnL w B p n R) : ListAt w p n R := by
  rcases h with h | ⟨g, h1, h2, h3, h4⟩
  · exact .inl h
  · exact .inr ⟨g, 0, h1, h3, h4.rd⟩
theorem OwnL.below {w w' : World} {B : Nat} {p : Option Addr} {n : Nat} {R : Nat → Int} (h : OwnL w B p n R) (hb : Below w.heap.size w w') : OwnL w' B p n R := by
  rcases h with h | ⟨g, h1, h2, h3, h4⟩
  · exact .inl h
  · exact .inr ⟨g, h1, h2, Nat.lt_of_lt_of_le h3 hb.size, h4.below hb h3⟩
theorem ownL_of_row {w : World} {B e : Nat} {v : Value} {n : Nat} {R : Nat → Int} (h : w.ownsRow B e 5 v n (cellsR R n)) : ∃ p c, v = .slice p n c ∧ OwnL w B p n R := by
  rcases h.2 with ⟨rfl, rfl⟩ | ⟨g, cap, cur, rfl, h1, h2, h3, h4, h5, h6⟩
  · exact ⟨none, 0, rfl, .inl rfl⟩
  · refine ⟨_, cap, rfl, .inr ⟨g, rfl, h1, (Array.getElem?_eq_some_iff.1 h2).1, fun i hi => ?_⟩⟩
    rw [Nat.zero_add, cell_of_row w g i cur e (0, 0) h2]
    refine ⟨?_, frozen_of_row w g i cur e h2⟩
    have h7 : (cur.toList.take (n * 5))[i]? = (cellsR R n)[i]? := by rw [h6]
    rw [List.getElem?_take, if_pos hi, Array.getElem?_toList] at h7
    rw [h7]
    simp [cellsR, hi]

theorem row_below {W W' : World} {B e size n : Nat} {v : Value} {xs : List Value} (h : W.ownsRow B e size v n xs) (hb : Below W.heap.size W W') : W'.ownsRow B e size v n xs := by
  refine ⟨h.1, ?_⟩
  rcases h.2 with hv | ⟨g, cap, cur, h1, h2, h3, h4⟩
  · exact .inl hv
  · exact .inr ⟨g, cap, cur, h1, h2, (hb.block g (Array.getElem?_eq_some_iff.1 h3).1).trans h3, h4⟩

theorem insMk (s : ByteArray) (w : World) :
    Calls Tryd.prog 62 #[.string s] w fun e w' => e = .returned (.func (.func 87) #[] #[.pointer (some ⟨w.heap.size, 0, none⟩)]) ∧ w' = w.alloc (.cells #[.string s] 9) := by
  go_enter Tryd.func62, Tryd.ntmps62
  go_wp2
  go_ret
  exact ⟨rfl, rfl⟩

/-- What the loop keeps between two rounds. (B: the heap's size when the call begins: the answers' boxes B, B + 1, B + 2, the list's box B + 3, the iterator's B + 4.) -/
def RunI (w : World) (R : Nat → Int) (j : Nat) (k : Nat) (W : World) : Prop :=
  k ≤ j ∧ (∃ v, Boxed W (w.heap.size + 1 + 1 + 1) 26 v ∧ W.ownsRow w.heap.size 47 5 v k (cellsR R k) ∧ v.ownBlock ≠ some (w.heap.size + 1 + 1 + 1 + 1)) ∧
    Boxed W w.heap.size 26 (.slice none 0 0) ∧ Boxed W (w.heap.size + 1) 3 (.int .i64 0) ∧ Boxed W (w.heap.size + 1 + 1) 3 (.int .i64 0) ∧ Below w.heap.size w W ∧ w.heap.size + 1 + 1 + 1 + 1 < W.heap.size
def RunX (w : World) (N j : Nat) (W : World) : Prop :=
  j < N ∧ Boxed W w.heap.size 26 (.slice none 0 0) ∧ Boxed W (w.heap.size + 1) 3 (.int .i64 j) ∧ Boxed W (w.heap.size + 1 + 1) 3 (.int .i64 10) ∧ Below w.heap.size w W
theorem boxed_stands {A B : World} {row : Option Nat} {Bc S X t : Nat} {v : Value} (hg : A.grownBy B row) (hrow : ∀ r, row = some r → r = Bc ∨ (S ≤ r ∧ ∃ o : Obj, A.heap[r]? = some o ∧ o.isCells = false)) (h : Boxed A X t v) (hne : X ≠ Bc) (hlt : X < S) : Boxed B X t v :=
  h.kept hg (fun e => by rcases hrow X e.symm with h' | ⟨h', _⟩ <;> omega)
theorem row_stands {A B : World} {row : Option Nat} {Bc S base e size k : Nat} {v : Value} {xs : List Value} (hg : A.grownBy B row) (hrow : ∀ r, row = some r → r = Bc ∨ (S ≤ r ∧ ∃ o : Obj, A.heap[r]? = some o ∧ o.isCells = false)) (h : A.ownsRow base e size v k xs) (hne : v.ownBlock ≠ some Bc) : B.ownsRow base e size v k xs := by
  refine h.kept hg ?_
  rcases h.2 with ⟨rfl, _⟩ | ⟨g, cap, cur, rfl, _, hgb, _⟩
  · exact .inl rfl
  · refine .inr fun e' => ?_
    rcases hrow g (by simpa [Value.ownBlock] using e'.symm) with h' | ⟨_, o, ho, hc⟩
    · exact hne (by simp [Value.ownBlock, h'])
    · rw [hgb] at ho; cases ho; cases hc
theorem runI_stands (w : World) (R : Nat → Int) (j S : Nat) (hS : S = w.heap.size + 1 + 1 + 1 + 1 + 1) : Stands (w.heap.size + 1 + 1 + 1 + 1) S (RunI w R j) := by
  rintro k A B row ⟨h0, ⟨v, hv, hr, hne⟩, h2, h3, h4, hb, hz⟩ hg hrow
  exact ⟨h0, ⟨v, boxed_stands hg hrow hv (by omega) (by omega), row_stands hg hrow hr hne, hne⟩, boxed_stands hg hrow h2 (by omega) (by omega), boxed_stands hg hrow h3 (by omega) (by omega), boxed_stands hg hrow h4 (by omega) (by omega),
    hb.grown hg hb.size (fun r e => by rcases hrow r e with h' | ⟨h', _⟩ <;> omega), Nat.lt_of_lt_of_le hz hg.size⟩
theorem runX_stands (w : World) (N j S : Nat) (hS : S = w.heap.size + 1 + 1 + 1 + 1 + 1) : Stands (w.heap.size + 1 + 1 + 1 + 1) S (fun (_ : Unit) => RunX w N j) := by
  rintro _ A B row ⟨h0, h2, h3, h4, hb⟩ hg hrow
  exact ⟨h0, boxed_stands hg hrow h2 (by omega) (by omega), boxed_stands hg hrow h3 (by omega) (by omega), boxed_stands hg hrow h4 (by omega) (by omega),
    hb.grown hg hb.size (fun r e => by rcases hrow r e with h' | ⟨h', _⟩ <;> omega)⟩

set_option maxRecDepth 100000 in
set_option maxHeartbeats 4000000 in
theorem runC (s : ByteArray) (N : Nat) (hs : s.size = 4 * N) (hN : N ≤ 16384) (R : Nat → Int) (co : Nat → Int) (hd : ∀ k, k < N → Hid (DecIs (wrd s k) R k (co k))) (j : Nat) (hj : j ≤ N) (hgo : ∀ k, k < j → co k = 0) (hst : j < N → co j = 10) (w : World) (hL : Laid w) :
    Calls Tryd.prog 36 #[.string s] w fun e w' => (∃ p n c x y, e = .returned (.tuple #[.slice p n c, .int .i64 x, .int .i64 y]) ∧ ((j = N ∧ n = N ∧ x = 0 ∧ y = 0) ∨ (j < N ∧ n = 0 ∧ x = j ∧ y = 10)) ∧ OwnL w' w.heap.size p n R) ∧ Below w.heap.size w w' := by
  obtain ⟨i0, hi, hz0, hz1, hz2⟩ := info_parts Tryd.info_inr
  refine (callsIn_wide (n := 9)).1 ?_
  refine callsIn_of_wp_marks Tryd.func36 rfl trivial ?_ rfl
  simp only [Tryd.ntmps36, List.size_toArray, List.length_cons, List.length_nil, Nat.reduceAdd, Nat.reduceSub, Array.replicate_succ, Array.replicate_zero, List.push_toArray, List.append_toArray, List.nil_append, List.cons_append]
  gi_wp2
  refine ⟨trivial, (callsIn_wide.2 (insMk _ _)).mono ?_⟩
  rintro e w' ⟨rfl, rfl⟩
  gi_wp2
  have bC := Boxed.new ((((w.alloc (.cells #[.slice none 0 0] 26)).alloc (.cells #[.int .i64 0] 3)).alloc (.cells #[.int .i64 0] 3)).alloc (.cells #[.slice none 0 0] 26)) 9 (.string s)
  have bL := (Boxed.new (((w.alloc (.cells #[.slice none 0 0] 26)).alloc (.cells #[.int .i64 0] 3)).alloc (.cells #[.int .i64 0] 3)) 26 (.slice none 0 0)).alloc (.cells #[.string s] 9)
  have bY := ((Boxed.new ((w.alloc (.cells #[.slice none 0 0] 26)).alloc (.cells #[.int .i64 0] 3)) 3 (.int .i64 0)).alloc (.cells #[.slice none 0 0] 26)).alloc (.cells #[.string s] 9)
  have bX := (((Boxed.new (w.alloc (.cells #[.slice none 0 0] 26)) 3 (.int .i64 0)).alloc (.cells #[.int .i64 0] 3)).alloc (.cells #[.slice none 0 0] 26)).alloc (.cells #[.string s] 9)
  have bA := ((((Boxed.new w 26 (.slice none 0 0)).alloc (.cells #[.int .i64 0] 3)).alloc (.cells #[.int .i64 0] 3)).alloc (.cells #[.slice none 0 0] 26)).alloc (.cells #[.string s] 9)
  simp only [World.size_alloc] at bC bL bY bX
  have hB0 : Below w.heap.size w (((((w.alloc (.cells #[.slice none 0 0] 26)).alloc (.cells #[.int .i64 0] 3)).alloc (.cells #[.int .i64 0] 3)).alloc (.cells #[.slice none 0 0] 26)).alloc (.cells #[.string s] 9)) :=
    (((((Below.refl _ w).alloc (Nat.le_refl _) _).alloc (by simp) _).alloc (by simp; omega) _).alloc (by simp; omega) _).alloc (by simp; omega) _
  have hz : (((((w.alloc (.cells #[.slice none 0 0] 26)).alloc (.cells #[.int .i64 0] 3)).alloc (.cells #[.int .i64 0] 3)).alloc (.cells #[.slice none 0 0] 26)).alloc (.cells #[.string s] 9)).heap.size = w.heap.size + 1 + 1 + 1 + 1 + 1 := by simp
  obtain ⟨W0, hW0⟩ : ∃ W0, (((((w.alloc (.cells #[.slice none 0 0] 26)).alloc (.cells #[.int .i64 0] 3)).alloc (.cells #[.int .i64 0] 3)).alloc (.cells #[.slice none 0 0] 26)).alloc (.cells #[.string s] 9)) = W0 := ⟨_, rfl⟩
  rw [hW0] at bC bL bY bX bA hB0 hz ⊢
  clear hW0
  have hL0 : Laid W0 := laid_below hL hB0
  refine rangeCell rfl (by omega) (gf := 87) (lb := #[.pointer (some ⟨w.heap.size + 1 + 1 + 1 + 1, 0, none⟩)]) rfl trivial (enters_of Tryd.func87 (by kernel_rfl) rfl)
    (insSeq s N hs hN R co hd 8 w.heap.size (w.heap.size + 1 + 1 + 1 + 1) W0 hL0 hB0.size (fun W h => laid_below hL (hB0.trans h)) (by omega) (by omega) bC) hB0.size (by omega) (fun _ => rfl)
    (RunI w R j) (RunX w N j) (runI_stands w R j _ hz) (runX_stands w N j _ hz) ⟨Nat.zero_le _, ⟨_, bL, World.ownsRow_nil _ _ _ _, by simp [Value.ownBlock]⟩, bA, bX, bY, hB0, by omega⟩
    (fun k a' W => ∃ Bx, w.heap.size + 1 + 1 + 1 + 1 < Bx ∧ Lies W Bx 47 #[.int .i64 (R (k * 5)), .int .i64 (R (k * 5 + 1)), .int .i64 (R (k * 5 + 2)), .int .i64 (R (k * 5 + 3)), .int .i64 (R (k * 5 + 4))] ∧ a' = { tmps := #[.string s, undef, .pointer (some ⟨w.heap.size, 0, none⟩), .pointer (some ⟨w.heap.size + 1, 0, none⟩), .pointer (some ⟨w.heap.size + 1 + 1, 0, none⟩), .pointer (some ⟨w.heap.size + 1 + 1 + 1, 0, none⟩), .pointer (some ⟨Bx, 0, none⟩), .int .i64 (co k), .string s, .func (.func 87) #[] #[.pointer (some ⟨w.heap.size + 1 + 1 + 1 + 1, 0, none⟩)], .agg #[.int .i64 (R (k * 5)), .int .i64 (R (k * 5 + 1)), .int .i64 (R (k * 5 + 2)), .int .i64 (R (k * 5 + 3)), .int .i64 (R (k * 5 + 4))], .int .i64 (co k), undef, undef, undef, undef, undef, undef, undef, undef, undef, undef], defers := [] })
    ?ax ?assign ?body ?done ?stop
  case ax =>
    rintro k a' _ A B row ⟨Bx, h1, h2, h3⟩ hg hrow
    refine ⟨Bx, h1, (hg.block Bx h2.lt (fun e => ?_)).trans h2, h3⟩
    rcases hrow Bx e.symm with h' | ⟨_, o, ho, hc⟩
    · omega
    · rw [show A.heap[Bx]? = _ from h2] at ho; cases ho; cases hc
  case assign =>
    rintro l k W K hI hK
    gi_wp2
    obtain ⟨q0, q1, q2, q3, q4, q5, q6⟩ := hI
    have hI2 := (runI_stands w R j _ rfl).alloc (.cells #[.int .i64 (R (k * 5)), .int .i64 (R (k * 5 + 1)), .int .i64 (R (k * 5 + 2)), .int .i64 (R (k * 5 + 3)), .int .i64 (R (k * 5 + 4))] 47) (show RunI w R j k W from ⟨q0, q1, q2, q3, q4, q5, q6⟩)
    exact hK _ _ ((KeepsOthers.alloc _ _).from _) (RKeep.new ((Below.refl _ _).alloc (Nat.le_refl _) _) q5.size q6) hI2 ⟨W.heap.size, q6, Lies.new _ _ _, rfl⟩
  case body =>
    rintro l k a' W ⟨q0, ⟨v, hv, hr, hne⟩, q2, q3, q4, q5, q6⟩ ⟨Bx, hBx, hX, rfl⟩ hk
    have cv := hv.cell
    by_cases hkj : k < j
    · have e0 := hgo k hkj
      rw [e0]
      have x0 := hX.cell (j := 0) rfl
      have x1 := hX.cell (j := 1) rfl
      have x2 := hX.cell (j := 2) rfl
      have x3 := hX.cell (j := 3) rfl
      have x4 := hX.cell (j := 4) rfl
      gi_wp2_with (gi_at_builtin; refine wpListIn_append_own_at _ rfl _ _ 26 rfl w.heap.size 47 i0 _ 5 40 Tryd.underlying26 hi hz0 hz1 hz2 rfl (by decide) v k _ rfl (hr.alloc _) ⟨W.heap.size, 0, none⟩ 1 1 [.int .i64 (R (k * 5)), .int .i64 (R (k * 5 + 1)), .int .i64 (R (k * 5 + 2)), .int .i64 (R (k * 5 + 3)), .int .i64 (R (k * 5 + 4))] rfl rfl (World.news_of_block (cs := #[.int .i64 (R (k * 5)), .int .i64 (R (k * 5 + 1)), .int .i64 (R (k * 5 + 2)), .int .i64 (R (k * 5 + 3)), .int .i64 (R (k * 5 + 4))]) (t := 47) (fr := (0, 0)) (heap_alloc_new W _)) (by simp [Value.oneCell']) (by unfold maxLen; omega) (by omega) (by have := q5.size; simp; omega) ?_; intro v' w1 hown' hgrow _ hat; obtain ⟨g', cap', rfl⟩ := ownsRow_succ hown'; obtain ⟨hv1, hv2, hr2, hk2, hb2⟩ := hv.appended (by decide) hr q5.size (by omega) hown' hgrow; have hc1 := hv1.cell; have hf1 := hv1.frozen)
      obtain ⟨V', hV'⟩ : ∃ V', Value.slice (some ⟨g', 0, none⟩) (k + 1) cap' = V' := ⟨_, rfl⟩
      rw [hV'] at hown' hat hv2 hr2 hk2 hb2 ⊢
      have keep : ∀ X, X < W.heap.size → X ≠ w.heap.size + 1 + 1 + 1 → some X ≠ v.ownBlock → (w1.setCell ⟨w.heap.size + 1 + 1 + 1, 0, none⟩ V').heap[X]? = W.heap[X]? := fun X h1 h2 h3 =>
        (Below.heap_setCell _ _ _ _ h2).trans ((hgrow.block X (by simp; omega) h3).trans (Below.heap_alloc _ _ _ h1))
      have hne' : V'.ownBlock ≠ some (w.heap.size + 1 + 1 + 1 + 1) := by
        intro e
        rcases hat with h | h
        · exact hne (h ▸ e)
        · rw [e] at h
          have := Option.some.inj h
          simp at this
          omega
      have hgs : W.heap.size ≤ w1.heap.size := by have := hgrow.size; simp at this; omega
      refine ⟨hk2.from _, ⟨hb2, keep _ q6 (by omega) hne.symm⟩, by omega, ⟨V', hv2, by rw [cellsR_succ]; exact hr2, hne'⟩, (keep _ q2.lt (by omega) (q2.not_row (by decide) hr)).trans q2, (keep _ q3.lt (by omega) (q3.not_row (by decide) hr)).trans q3, (keep _ q4.lt (by omega) (q4.not_row (by decide) hr)).trans q4, q5.trans hb2, by simp; omega⟩
    · obtain rfl : k = j := by omega
      have e0 := hst hk
      rw [e0]
      obtain ⟨p, c, rfl, ho⟩ := ownL_of_row hr
      have c2 := q2.cell
      have c3 := q3.cell
      have c4 := q4.cell
      have f2 := q2.frozen
      have f3 := q3.frozen
      have f4 := q4.frozen
      have ya := ((q2.set (.slice none 0 0)).other (B' := w.heap.size + 1) (by omega) (.int .i64 (k : Int))).other (B' := w.heap.size + 1 + 1) (by omega) (.int .i64 10)
      have yb := ((q3.other (B' := w.heap.size) (by omega) (.slice none 0 0)).set (.int .i64 (k : Int))).other (B' := w.heap.size + 1 + 1) (by omega) (.int .i64 10)
      have yc := ((q4.other (B' := w.heap.size) (by omega) (.slice none 0 0)).other (B' := w.heap.size + 1) (by omega) (.int .i64 (k : Int))).set (.int .i64 10)
      have yd := ((q5.setCell (p := ⟨w.heap.size, 0, none⟩) (Nat.le_refl _) (.slice none 0 0)).setCell (p := ⟨w.heap.size + 1, 0, none⟩) (by simp) (.int .i64 (k : Int))).setCell (p := ⟨w.heap.size + 1 + 1, 0, none⟩) (by simp; omega) (.int .i64 10)
      have ye := ((KeepsOthers.setCell W ⟨w.heap.size, 0, none⟩ (.slice none 0 0)).trans (KeepsOthers.setCell _ ⟨w.heap.size + 1, 0, none⟩ (.int .i64 (k : Int)))).trans (KeepsOthers.setCell _ ⟨w.heap.size + 1 + 1, 0, none⟩ (.int .i64 10))
      gi_wp2
      gi_region
      all_goals gi_wp2
      all_goals (try go_bits)
      all_goals exact ⟨(ye.trans (KeepsOthers.drew _)).from _, hk, ya, yb, yc, yd.drew⟩
  case done =>
    rintro D W hD ⟨q0, ⟨v, hv, hr, hne⟩, q2, q3, q4, q5, q6⟩ hDq
    obtain rfl : N = j := by omega
    obtain ⟨p, c, rfl, ho⟩ := ownL_of_row hr
    have cv := hv.cell
    have c2 := q2.cell
    have c3 := q3.cell
    have c4 := q4.cell
    have f2 := q2.frozen
    have f3 := q3.frozen
    have f4 := q4.frozen
    have n2 := q2.not_row (by decide) hr
    have n3 := q3.not_row (by decide) hr
    have n4 := q4.not_row (by decide) hr
    have ya := ((q2.set (.slice p N c)).other (B' := w.heap.size + 1) (by omega) (.int .i64 0)).other (B' := w.heap.size + 1 + 1) (by omega) (.int .i64 0)
    have yb := ((q3.other (B' := w.heap.size) (by omega) (.slice p N c)).set (.int .i64 0)).other (B' := w.heap.size + 1 + 1) (by omega) (.int .i64 0)
    have yc := ((q4.other (B' := w.heap.size) (by omega) (.slice p N c)).other (B' := w.heap.size + 1) (by omega) (.int .i64 0)).set (.int .i64 0)
    have yd := ((q5.setCell (p := ⟨w.heap.size, 0, none⟩) (Nat.le_refl _) (.slice p N c)).setCell (p := ⟨w.heap.size + 1, 0, none⟩) (by simp) (.int .i64 0)).setCell (p := ⟨w.heap.size + 1 + 1, 0, none⟩) (by simp; omega) (.int .i64 0)
    have ye := ((KeepsOthers.setCell W ⟨w.heap.size, 0, none⟩ (.slice p N c)).trans (KeepsOthers.setCell _ ⟨w.heap.size + 1, 0, none⟩ (.int .i64 0))).trans (KeepsOthers.setCell _ ⟨w.heap.size + 1 + 1, 0, none⟩ (.int .i64 0))
    have yr := ((hr.kept (grownBy_setCell' W w.heap.size (.slice p N c)) (.inr n2.symm)).kept (grownBy_setCell' _ (w.heap.size + 1) (.int .i64 0)) (.inr n3.symm)).kept (grownBy_setCell' _ (w.heap.size + 1 + 1) (.int .i64 0)) (.inr n4.symm)
    have yq := ye.same D _ hDq rfl
    gi_wp2
    obtain ⟨V, hV⟩ : ∃ V, (((W.setCell ⟨w.heap.size, 0, none⟩ (.slice p N c)).setCell ⟨w.heap.size + 1, 0, none⟩ (.int .i64 0)).setCell ⟨w.heap.size + 1 + 1, 0, none⟩ (.int .i64 0)) = V := ⟨_, rfl⟩
    rw [hV] at ya yb yc yd yr yq ⊢
    have za := (ya.kept (grownBy_putObj' V D (.deferred none)) (by intro e; have := Option.some.inj e; omega)).cell
    have zb := (yb.kept (grownBy_putObj' V D (.deferred none)) (by intro e; have := Option.some.inj e; omega)).cell
    have zc := (yc.kept (grownBy_putObj' V D (.deferred none)) (by intro e; have := Option.some.inj e; omega)).cell
    obtain ⟨p', c', e', ho'⟩ := ownL_of_row (ownsRow_putObj yr (.deferred none) yq rfl)
    cases e'
    refine ⟨by simp, .inl ⟨_, _, rfl, run_takeDeferred yq, ?_⟩⟩
    refine ⟨.tuple #[.slice p N c, .int .i64 0, .int .i64 0], by simp [results, Tryd.results36, go_sem, za, zb, zc], ⟨p, N, c, 0, 0, rfl, by simp, ho'⟩, yd.trans (belowK_b (w := w) (Nat.le_refl _) V D _ _ (by omega) yq rfl rfl)⟩
  case stop =>
    rintro D W hD ⟨q0, q2, q3, q4, q5⟩ hDq
    have za := (q2.kept (grownBy_putObj' W D (.deferred none)) (by intro e; have := Option.some.inj e; omega)).cell
    have zb := (q3.kept (grownBy_putObj' W D (.deferred none)) (by intro e; have := Option.some.inj e; omega)).cell
    have zc := (q4.kept (grownBy_putObj' W D (.deferred none)) (by intro e; have := Option.some.inj e; omega)).cell
    gi_wp2
    refine ⟨by simp, .inl ⟨_, _, rfl, run_takeDeferred hDq, ?_⟩⟩
    refine ⟨.tuple #[.slice none 0 0, .int .i64 j, .int .i64 10], by simp [results, Tryd.results36, go_sem, za, zb, zc], ⟨none, 0, 0, j, 10, rfl, .inr ⟨q0, rfl, rfl, rfl⟩, .inl rfl⟩, q5.trans (belowK_b (w := w) (Nat.le_refl _) W D _ _ (by omega) hDq rfl rfl)⟩
end Go.Proofs.YtbfoopfmjiilcaaDoor

namespace Go.Proofs.YtbfoopfmjiilcaaDoor
open Go Go.RowKit
set_option linter.unusedVariables false

/-- The model's word for a word. -/
def ModIs (v : Nat) (R : Nat → Int) (k : Nat) (b : Bool) : Prop := ∀ w, Calls Tryd.prog 60 #[.int .i64 v] w fun e w' => e = .returned (.tuple #[.agg #[.int .i64 (R (k * 5)), .int .i64 (R (k * 5 + 1)), .int .i64 (R (k * 5 + 2)), .int .i64 (R (k * 5 + 3)), .int .i64 (R (k * 5 + 4))], .bool b]) ∧ Below w.heap.size w w'
def cdOf (b : Bool) : Int := if b = true then 0 else 10

def DecOne (v : Nat) (q : Nat → Int) (b : Bool) : Prop :=
    (∀ w, Calls Tryd.prog 60 #[.int .i64 v] w fun e w' => e = .returned (.tuple #[.agg #[.int .i64 (q 0), .int .i64 (q 1), .int .i64 (q 2), .int .i64 (q 3), .int .i64 (q 4)], .bool b]) ∧ Below w.heap.size w w') ∧
    (∀ w, Laid w → Calls Tryd.prog 88 #[.int .i64 v] w fun e w' => e = .returned (.tuple #[.agg #[.int .i64 (q 0), .int .i64 (q 1), .int .i64 (q 2), .int .i64 (q 3), .int .i64 (q 4)], .int .i64 (cdOf b)]) ∧ Below w.heap.size w w') ∧
    (b = true → rightB (q 0) (q 1) (q 2) (q 3) (q 4) = true)
theorem decOne (v : Nat) (v1 : v < 4294967296) : ∃ (q : Nat → Int) (b : Bool), DecOne v q b := by
  have w0 : (0 : Int) ≤ (v : Int) := by omega
  have w1 : (v : Int) < 4294967296 := by omega
  rcases first_hit v with h | ⟨n, n0, n1, h, hh⟩
  · exact ⟨fun _ => 0, false, fun w => dmNone v w0 w1 h w, fun w hl => decNone v w0 w1 h w, fun h => by cases h⟩
  · refine ⟨fun i => [(n : Int), tkRd (shT n).1 v, tkR1 (shT n).1 v, tkR2 (shT n).1 v, takeF (shT n).1 v].getD i 0, true, fun w => dmYes v w0 w1 n n0 n1 h hh _ rfl w, fun w hl => decX v w0 w1 n n0 n1 h hh _ rfl w, fun _ => ?_⟩
    obtain ⟨f0, f1, _⟩ := sh_bounds (shT_ok n (by omega) (by omega))
    have hr := right_taken (shT (n : Int)).1 (v : Int) f0 f1
    show rightB (n : Int) (tkRd (shT n).1 v) (tkR1 (shT n).1 v) (tkR2 (shT n).1 v) (takeF (shT n).1 v) = true
    unfold rightB
    rw [hr]
    simp
    omega

theorem decRun (s : ByteArray) : ∃ (R : Nat → Int) (ok : Nat → Bool), ∀ k, ModIs (wrd s k) R k (ok k) ∧ DecIs (wrd s k) R k (cdOf (ok k)) ∧ (ok k = true → rightB (R (k * 5)) (R (k * 5 + 1)) (R (k * 5 + 2)) (R (k * 5 + 3)) (R (k * 5 + 4)) = true) := by
  have key : ∀ k, ∃ x : (Nat → Int) × Bool, DecOne (wrd s k) x.1 x.2 := fun k => by
    obtain ⟨q, b, h⟩ := decOne (wrd s k) (wrd_lt s k)
    exact ⟨(q, b), h⟩
  obtain ⟨f, hf⟩ : ∃ f : Nat → (Nat → Int) × Bool, ∀ k, DecOne (wrd s k) (f k).1 (f k).2 := ⟨fun k => Classical.choose (key k), fun k => Classical.choose_spec (key k)⟩
  have e0 : ∀ k, (k * 5) / 5 = k := fun k => by omega
  have e0' : ∀ k, (k * 5) % 5 = 0 := fun k => by omega
  have e1 : ∀ k, (k * 5 + 1) / 5 = k := fun k => by omega
  have e1' : ∀ k, (k * 5 + 1) % 5 = 1 := fun k => by omega
  have e2 : ∀ k, (k * 5 + 2) / 5 = k := fun k => by omega
  have e2' : ∀ k, (k * 5 + 2) % 5 = 2 := fun k => by omega
  have e3 : ∀ k, (k * 5 + 3) / 5 = k := fun k => by omega
  have e3' : ∀ k, (k * 5 + 3) % 5 = 3 := fun k => by omega
  have e4 : ∀ k, (k * 5 + 4) / 5 = k := fun k => by omega
  have e4' : ∀ k, (k * 5 + 4) % 5 = 4 := fun k => by omega
  refine ⟨fun i => (f (i / 5)).1 (i % 5), fun k => (f k).2, fun k => ?_⟩
  have h := hf k
  unfold ModIs DecIs
  simp only [e0, e0', e1, e1', e2, e2', e3, e3', e4, e4']
  exact h

/-- The first word that is none, or the run's length. -/
theorem first_no (ok : Nat → Bool) (N : Nat) : ∃ j, j ≤ N ∧ (∀ k, k < j → ok k = true) ∧ (j < N → ok j = false) := by
  induction N with
  | zero => exact ⟨0, Nat.le_refl _, fun k hk => absurd hk (Nat.not_lt_zero _), fun h => absurd h (Nat.lt_irrefl _)⟩
  | succ N ih =>
    obtain ⟨j, h1, h2, h3⟩ := ih
    by_cases e : j < N
    · exact ⟨j, by omega, h2, fun _ => h3 e⟩
    · obtain rfl : j = N := by omega
      cases hb : ok j with
      | true => exact ⟨j + 1, Nat.le_refl _, fun k hk => by
          rcases Nat.lt_succ_iff_lt_or_eq.1 hk with h | rfl
          · exact h2 k h
          · exact hb, fun h => absurd h (Nat.lt_irrefl _)⟩
      | false => exact ⟨j, by omega, h2, fun _ => hb⟩

/-- A run of N words whose first j are instructions. -/
structure Run (s : ByteArray) (N : Nat) (R : Nat → Int) (j : Nat) : Prop where
  size : s.size = 4 * N
  small : N ≤ 16384
  le : j ≤ N
  yes : ∀ k, k < j → Hid (ModIs (wrd s k) R k true)
  no : j < N → Hid (ModIs (wrd s j) R j false)
  dec : ∃ co : Nat → Int, (∀ k, k < N → Hid (DecIs (wrd s k) R k (co k))) ∧ (∀ k, k < j → co k = 0) ∧ (j < N → co j = 10)
  right : ∀ k, k < j → rightB (R (k * 5)) (R (k * 5 + 1)) (R (k * 5 + 2)) (R (k * 5 + 3)) (R (k * 5 + 4)) = true
theorem run_of (s : ByteArray) (N : Nat) (hs : s.size = 4 * N) (hN : N ≤ 16384) : ∃ R j, Run s N R j := by
  obtain ⟨R, ok, h⟩ := decRun s
  obtain ⟨j, h1, h2, h3⟩ := first_no ok N
  refine ⟨R, j, hs, hN, h1, fun k hk => ?_, fun hk => ?_, ⟨fun k => cdOf (ok k), fun k _ => (h k).2.1, fun k hk => by show cdOf (ok k) = 0; rw [h2 k hk]; rfl, fun hj => by show cdOf (ok j) = 10; rw [h3 hj]; rfl⟩, fun k hk => (h k).2.2 (h2 k hk)⟩
  · have := (h k).1
    rw [h2 k hk] at this
    exact this
  · have := (h j).1
    rw [h3 hk] at this
    exact this

/-- The program's reading of a run. -/
theorem Run.impl {s : ByteArray} {N j : Nat} {R : Nat → Int} (h : Run s N R j) (w : World) (hL : Laid w) :
    Calls Tryd.prog 36 #[.string s] w fun e w' => (∃ p n c x y, e = .returned (.tuple #[.slice p n c, .int .i64 x, .int .i64 y]) ∧ ((j = N ∧ n = N ∧ x = 0 ∧ y = 0) ∨ (j < N ∧ n = 0 ∧ x = j ∧ y = 10)) ∧ OwnL w' w.heap.size p n R) ∧ Below w.heap.size w w' := by
  obtain ⟨co, h1, h2, h3⟩ := h.dec
  exact runC s N h.size h.small R co h1 j h.le h2 h3 w hL

theorem szRun (s : ByteArray) (w : World) (hs : s.size ≤ maxLen) :
    Calls Tryd.prog 33 #[.string s] w fun e w' => e = .returned (.bool (decide (s.size % 4 = 0 ∧ s.size ≤ 256))) ∧ w' = w := by
  unfold maxLen at hs
  by_cases h : s.size % 4 = 0
  · by_cases h1 : s.size ≤ 256
    · have e : decide (s.size % 4 = 0 ∧ s.size ≤ 256) = true := by simp [h, h1]
      rw [e]
      go_enter Tryd.func33, Tryd.ntmps33
      go_wp2
      go_ret
      refine ⟨congrArg (fun x => Ending.returned (.bool x)) ?_, rfl⟩
      first | rfl | (simp; omega)
    · have e : decide (s.size % 4 = 0 ∧ s.size ≤ 256) = false := by simp [h, h1]
      rw [e]
      go_enter Tryd.func33, Tryd.ntmps33
      go_wp2
      go_ret
      refine ⟨congrArg (fun x => Ending.returned (.bool x)) ?_, rfl⟩
      first | rfl | (simp; omega)
  · have e : decide (s.size % 4 = 0 ∧ s.size ≤ 256) = false := by simp [h]
    rw [e]
    go_enter Tryd.func33, Tryd.ntmps33
    go_wp2
    go_ret
    refine ⟨congrArg (fun x => Ending.returned (.bool x)) ?_, rfl⟩
    first | rfl | (simp; omega)

set_option maxRecDepth 100000 in
set_option maxHeartbeats 2000000 in
/-- The model's reading of a run. -/
theorem Run.model {s : ByteArray} {N j : Nat} {R : Nat → Int} (h : Run s N R j) (w : World) :
    Calls Tryd.prog 34 #[.string s] w fun e w' => (∃ p n c x, e = .returned (.tuple #[.slice p n c, .int .i64 x]) ∧ ((j = N ∧ n = N ∧ x = -1) ∨ (j < N ∧ n = 0 ∧ x = j)) ∧ OwnL w' w.heap.size p n R) ∧ Below w.heap.size w w' := by
  obtain ⟨i0, hi, hz0, hz1, hz2⟩ := info_parts Tryd.info_inr
  have hs := h.size
  have hN := h.small
  have hle := h.le
  go_enter Tryd.func34, Tryd.ntmps34
  go_wp2
  go_loopw [4, 5] (fun v i wr => ∃ k : Nat, k ≤ j ∧ i = .int .i64 k ∧ wr.ownsRow w.heap.size 47 5 v k (cellsR R k) ∧ Below w.heap.size w wr) (fun _ i _ => N - (intOf i).toNat)
  case atStart => exact ⟨0, Nat.zero_le _, rfl, World.ownsRow_made w #[] 0 (Nat.le_refl _) (Nat.zero_le _) rfl, (Below.refl _ _).alloc (Nat.le_refl _) _⟩
  case round =>
    obtain ⟨k, hk, rfl, hown, hB⟩ := hrel
    have hv : takeV s (4 * k) 4 = (wrd s k : Nat) := takeV_small s (4 * k) 4 (by omega)
    by_cases hkj : k < j
    · have hkN : k < N := by omega
      have hy := h.yes k hkj
      have hlt : (4 : Int) * k < s.size := by omega
      go_wp2_with (go_at_call 61; refine (specTake0 s (4 * k) 4 _ (by omega) (by omega) (by omega)).mono ?_; rintro e w1 ⟨rfl, rfl⟩; rw [hv])
      refine (hy.out _).mono ?_
      rintro e w2 ⟨rfl, hb2⟩
      have own2 := row_below hown hb2
      have B2 := hB.trans (hb2.mono hB.size)
      have s2 := B2.size
      have hlen := cellsR_len R k
      clear hb2 hown hB hv hy
      go_wp2_with (at_builtin; refine wpList_append_lies _ rfl _ _ 26 rfl w.heap.size 47 i0 _ 5 40 Tryd.underlying26 hi hz0 hz1 hz2 rfl (by omega) _ k _ rfl ((own2.alloc _).alloc _) ⟨w2.heap.size + 1, 0, none⟩ 1 1 [.int .i64 (R (k * 5)), .int .i64 (R (k * 5 + 1)), .int .i64 (R (k * 5 + 2)), .int .i64 (R (k * 5 + 3)), .int .i64 (R (k * 5 + 4))] rfl rfl (World.news_of_block (cs := #[.int .i64 (R (k * 5)), .int .i64 (R (k * 5 + 1)), .int .i64 (R (k * 5 + 2)), .int .i64 (R (k * 5 + 3)), .int .i64 (R (k * 5 + 4))]) (t := 47) (fr := (0, 0)) (by first | exact heap_alloc_new _ _ | (rw [← World.size_alloc w2]; exact heap_alloc_new _ _))) (by simp [Value.oneCell']) (by omega) (by unfold maxLen; omega) (by omega) (by simp; omega) (w2.heap.size + 1 + 1) (by simp) ?_; intro gg cap2 w3 hown3 hg3 hat3 hlt3)
      go_roundw
      case rel => exact ⟨k + 1, by omega, by go_num, by rw [cellsR_succ]; exact hown3, ((B2.alloc s2 _).alloc (by simp; omega) _).grown hg3 (by simp; omega) (fun i e => (own2.lt i e).1)⟩
      case measure => simp [intOf]; omega
    · obtain rfl : k = j := by omega
      by_cases hkN : k < N
      · have hy := h.no hkN
        have hlt : (4 : Int) * k < s.size := by omega
        go_wp2_with (go_at_call 61; refine (specTake0 s (4 * k) 4 _ (by omega) (by omega) (by omega)).mono ?_; rintro e w1 ⟨rfl, rfl⟩; rw [hv])
        refine (hy.out _).mono ?_
        rintro e w2 ⟨rfl, hb2⟩
        have B2 := hB.trans (hb2.mono hB.size)
        have s2 := B2.size
        clear hb2 hown hB hv hy
        go_wp2
        go_ret2
        exact ⟨⟨_, _, _, _, rfl, .inr ⟨hkN, rfl, rfl⟩, .inl rfl⟩, (B2.alloc s2 _).alloc (by simp; omega) _⟩
      · obtain rfl : k = N := by omega
        obtain ⟨p, c, rfl, ho⟩ := ownL_of_row hown
        have hlt : ¬ ((4 : Int) * k < s.size) := by omega
        go_wp2
        go_ret2
        first | exact ⟨⟨_, _, _, _, rfl, .inl ⟨rfl, rfl, rfl⟩, ho⟩, hB⟩ | exact ⟨⟨_, _, _, _, rfl, ⟨rfl, rfl⟩, ho⟩, hB⟩

/-- The code of a run's length. -/
def crC (n few : Nat) : Int := if 65536 < n then 2 else if n % 4 = 0 ∧ 4 * few ≤ n ∧ n ≤ 256 then 0 else 8
theorem checkRunC (s : ByteArray) (few : Nat) (w : World) (hs : s.size ≤ maxLen) (hf : few ≤ 5) :
    Calls Tryd.prog 35 #[.string s, .int .i64 few] w fun e w' => e = .returned (.int .i64 (crC s.size few)) ∧ w' = w := by
  unfold maxLen at hs
  by_cases h0 : 65536 < s.size
  · have e : crC s.size few = 2 := by unfold crC; rw [if_pos h0]
    rw [e]
    go_enter Tryd.func35, Tryd.ntmps35
    go_wp2
    go_ret
    exact ⟨rfl, rfl⟩
  · by_cases h1 : s.size % 4 = 0
    · by_cases h2 : 4 * few ≤ s.size
      · by_cases h3 : s.size ≤ 256
        · have e : crC s.size few = 0 := by unfold crC; rw [if_neg h0, if_pos ⟨h1, h2, h3⟩]
          rw [e]
          have h2' : ¬ ((s.size : Int) < (few : Int) * 4) := by omega
          have h1' : (s.size : Int) % 4 = 0 := by omega
          go_enter Tryd.func35, Tryd.ntmps35
          go_wp2
          go_ret
          exact ⟨rfl, rfl⟩
        · have e : crC s.size few = 8 := by unfold crC; rw [if_neg h0, if_neg (fun h => h3 h.2.2)]
          rw [e]
          have h2' : ¬ ((s.size : Int) < (few : Int) * 4) := by omega
          have h1' : (s.size : Int) % 4 = 0 := by omega
          go_enter Tryd.func35, Tryd.ntmps35
          go_wp2
          go_ret
          exact ⟨rfl, rfl⟩
      · have e : crC s.size few = 8 := by unfold crC; rw [if_neg h0, if_neg (fun h => h2 h.2.1)]
        rw [e]
        have h2' : (s.size : Int) < (few : Int) * 4 := by omega
        have h1' : (s.size : Int) % 4 = 0 := by omega
        go_enter Tryd.func35, Tryd.ntmps35
        go_wp2
        go_ret
        exact ⟨rfl, rfl⟩
    · have e : crC s.size few = 8 := by unfold crC; rw [if_neg h0, if_neg (fun h => h1 h.1)]
      rw [e]
      have h1' : ¬ ((s.size : Int) % 4 = 0) := by omega
      go_enter Tryd.func35, Tryd.ntmps35
      go_wp2
      go_ret
      exact ⟨rfl, rfl⟩

/-- An answer of a list and two numbers. -/
def ListAns (B n : Nat) (x y : Int) (R : Nat → Int) (w : World) (e : Ending) (w' : World) : Prop := (∃ p c, e = .returned (.tuple #[.slice p n c, .int .i64 x, .int .i64 y]) ∧ OwnL w' B p n R) ∧ Below w.heap.size w w'

theorem instrsImplNo (s : ByteArray) (w : World) (hs : s.size ≤ maxLen) (c : Int) (hc : crC s.size 0 = c) (h0 : c ≠ 0) :
    Calls Tryd.prog 14 #[.string s] w fun e w' => ListAns w.heap.size 0 0 c (fun _ => 0) w e w' := by
  go_enter Tryd.func14, Tryd.ntmps14
  go_wp2_with (go_at_call 35; refine (checkRunC s 0 _ hs (by omega)).mono ?_; rintro e w' ⟨rfl, rfl⟩; rw [hc])
  refine bodyPost_ret (v := .tuple #[.slice none 0 0, .int .i64 0, .int .i64 c]) (by simp [results, Tryd.results14, go_sem]) rfl ⟨⟨none, 0, rfl, .inl rfl⟩, Below.refl _ _⟩
end Go.Proofs.YtbfoopfmjiilcaaDoor

namespace Go.Proofs.YtbfoopfmjiilcaaDoor
open Go Go.RowKit
set_option linter.unusedVariables false

theorem crC_cases (n : Nat) : (65536 < n ∧ crC n 0 = 2) ∨ (n ≤ 65536 ∧ ¬ (n % 4 = 0 ∧ n ≤ 256) ∧ crC n 0 = 8) ∨ (n % 4 = 0 ∧ n ≤ 256 ∧ crC n 0 = 0) := by
  unfold crC
  by_cases h : 65536 < n
  · exact .inl ⟨h, by rw [if_pos h]⟩
  · by_cases h1 : n % 4 = 0 ∧ n ≤ 256
    · exact .inr (.inr ⟨h1.1, h1.2, by rw [if_neg h, if_pos ⟨h1.1, by omega, h1.2⟩]⟩)
    · exact .inr (.inl ⟨by omega, h1, by rw [if_neg h, if_neg (fun x => h1 ⟨x.1, x.2.2⟩)]⟩)

theorem instrsSpecLong (s : ByteArray) (w : World) (hs : s.size ≤ maxLen) (h : 65536 < s.size) :
    Calls Tryd.prog 13 #[.string s] w fun e w' => ListAns w.heap.size 0 0 2 (fun _ => 0) w e w' := by
  unfold maxLen at hs
  go_enter Tryd.func13, Tryd.ntmps13
  go_wp2
  refine bodyPost_ret (v := .tuple #[.slice (some ⟨w.heap.size, 0, none⟩) 0 0, .int .i64 0, .int .i64 2]) (by simp [results, Tryd.results13, go_sem]) rfl ⟨⟨_, _, rfl, .inl rfl⟩, (Below.refl _ _).alloc (Nat.le_refl _) _⟩
theorem instrsSpecSize (s : ByteArray) (w : World) (hs : s.size ≤ 65536) (h : ¬ (s.size % 4 = 0 ∧ s.size ≤ 256)) :
    Calls Tryd.prog 13 #[.string s] w fun e w' => ListAns w.heap.size 0 0 8 (fun _ => 0) w e w' := by
  have e : decide (s.size % 4 = 0 ∧ s.size ≤ 256) = false := by simp only [decide_eq_false_iff_not]; exact h
  go_enter Tryd.func13, Tryd.ntmps13
  go_wp2_with (go_at_call 33; refine (szRun s _ (by unfold maxLen; omega)).mono ?_; rintro e' w' ⟨rfl, rfl⟩; rw [e])
  refine bodyPost_ret (v := .tuple #[.slice (some ⟨w'.heap.size, 0, none⟩) 0 0, .int .i64 0, .int .i64 8]) (by simp [results, Tryd.results13, go_sem]) rfl ⟨⟨_, _, rfl, .inl rfl⟩, (Below.refl _ _).alloc (Nat.le_refl _) _⟩

theorem instrsSpecYes (s : ByteArray) (N j : Nat) (R : Nat → Int) (w : World) (hr : Run s N R j) (hj : j = N) (h : s.size % 4 = 0 ∧ s.size ≤ 256) :
    Calls Tryd.prog 13 #[.string s] w fun e w' => ListAns w.heap.size N 0 0 R w e w' := by
  have e : decide (s.size % 4 = 0 ∧ s.size ≤ 256) = true := by simp only [decide_eq_true_eq]; exact h
  have hle : s.size ≤ 65536 := by omega
  go_enter Tryd.func13, Tryd.ntmps13
  go_wp2_with (go_at_call 33; refine (szRun s _ (by unfold maxLen; omega)).mono ?_; rintro e' w' ⟨rfl, rfl⟩; rw [e])
  refine (hr.model _).mono ?_
  rintro e2 w2 ⟨⟨p, n, c, x, rfl, ⟨hj', rfl, rfl⟩ | ⟨hj', rfl, rfl⟩, ho⟩, hb⟩
  · go_wp2
    refine bodyPost_ret (v := .tuple #[.slice p _ c, .int .i64 0, .int .i64 0]) (by simp [results, Tryd.results13, go_sem]) rfl ⟨⟨_, _, rfl, ho⟩, hb⟩
  · exact absurd hj (by omega)
theorem instrsSpecNo (s : ByteArray) (N j : Nat) (R : Nat → Int) (w : World) (hr : Run s N R j) (hj : j < N) (h : s.size % 4 = 0 ∧ s.size ≤ 256) :
    Calls Tryd.prog 13 #[.string s] w fun e w' => ListAns w.heap.size 0 j 10 R w e w' := by
  have e : decide (s.size % 4 = 0 ∧ s.size ≤ 256) = true := by simp only [decide_eq_true_eq]; exact h
  have hle : s.size ≤ 65536 := by omega
  go_enter Tryd.func13, Tryd.ntmps13
  go_wp2_with (go_at_call 33; refine (szRun s _ (by unfold maxLen; omega)).mono ?_; rintro e' w' ⟨rfl, rfl⟩; rw [e])
  refine (hr.model _).mono ?_
  rintro e2 w2 ⟨⟨p, n, c, x, rfl, ⟨hj', rfl, rfl⟩ | ⟨hj', rfl, rfl⟩, ho⟩, hb⟩
  · exact absurd hj (by omega)
  · have hj0 : (0 : Int) ≤ j := by omega
    go_wp2
    refine bodyPost_ret (v := .tuple #[.slice (some ⟨w2.heap.size, 0, none⟩) 0 0, .int .i64 j, .int .i64 10]) (by simp [results, Tryd.results13, go_sem]) rfl ⟨⟨_, _, rfl, .inl rfl⟩, hb.alloc hb.size _⟩
theorem instrsImplYes (s : ByteArray) (N j : Nat) (R : Nat → Int) (w : World) (hL : Laid w) (hr : Run s N R j) (hj : j = N) (h : s.size % 4 = 0 ∧ s.size ≤ 256) (hc : crC s.size 0 = 0) :
    Calls Tryd.prog 14 #[.string s] w fun e w' => ListAns w.heap.size N 0 0 R w e w' := by
  have hle : s.size ≤ 65536 := by omega
  go_enter Tryd.func14, Tryd.ntmps14
  go_wp2_with (go_at_call 35; refine (checkRunC s 0 _ (by unfold maxLen; omega) (by omega)).mono ?_; rintro e' w' ⟨rfl, rfl⟩; rw [hc])
  refine (hr.impl _ hL).mono ?_
  rintro e2 w2 ⟨⟨p, n, c, x, y, rfl, ⟨hj', rfl, rfl, rfl⟩ | ⟨hj', rfl, rfl, rfl⟩, ho⟩, hb⟩
  · go_wp2
    refine bodyPost_ret (v := .tuple #[.slice p _ c, .int .i64 0, .int .i64 0]) (by simp [results, Tryd.results14, go_sem]) rfl ⟨⟨_, _, rfl, ho⟩, hb⟩
  · exact absurd hj (by omega)
theorem instrsImplWrong (s : ByteArray) (N j : Nat) (R : Nat → Int) (w : World) (hL : Laid w) (hr : Run s N R j) (hj : j < N) (h : s.size % 4 = 0 ∧ s.size ≤ 256) (hc : crC s.size 0 = 0) :
    Calls Tryd.prog 14 #[.string s] w fun e w' => ListAns w.heap.size 0 j 10 R w e w' := by
  have hle : s.size ≤ 65536 := by omega
  go_enter Tryd.func14, Tryd.ntmps14
  go_wp2_with (go_at_call 35; refine (checkRunC s 0 _ (by unfold maxLen; omega) (by omega)).mono ?_; rintro e' w' ⟨rfl, rfl⟩; rw [hc])
  refine (hr.impl _ hL).mono ?_
  rintro e2 w2 ⟨⟨p, n, c, x, y, rfl, ⟨hj', rfl, rfl, rfl⟩ | ⟨hj', rfl, rfl, rfl⟩, ho⟩, hb⟩
  · exact absurd hj (by omega)
  · go_wp2
    refine bodyPost_ret (v := .tuple #[.slice p 0 c, .int .i64 j, .int .i64 10]) (by simp [results, Tryd.results14, go_sem]) rfl ⟨⟨_, _, rfl, .inl rfl⟩, hb⟩

/-- Both answer the same of whatever run. -/
theorem instrsBoth (s : ByteArray) (hs : s.size ≤ maxLen) : ∃ (n : Nat) (x y : Int) (R : Nat → Int), n ≤ 64 ∧
    (∀ w, Calls Tryd.prog 13 #[.string s] w fun e w' => ListAns w.heap.size n x y R w e w') ∧
    (∀ w, Laid w → Calls Tryd.prog 14 #[.string s] w fun e w' => ListAns w.heap.size n x y R w e w') := by
  rcases crC_cases s.size with ⟨h, hc⟩ | ⟨h, h', hc⟩ | ⟨h, h', hc⟩
  · exact ⟨0, 0, 2, fun _ => 0, by omega, fun w => instrsSpecLong s w hs h, fun w hL => instrsImplNo s w hs 2 hc (by omega)⟩
  · exact ⟨0, 0, 8, fun _ => 0, by omega, fun w => instrsSpecSize s w h h', fun w hL => instrsImplNo s w hs 8 hc (by omega)⟩
  · obtain ⟨R, j, hr⟩ := run_of s (s.size / 4) (by omega) (by omega)
    by_cases e : j = s.size / 4
    · exact ⟨s.size / 4, 0, 0, R, by omega, fun w => instrsSpecYes s _ j R w hr e ⟨h, h'⟩, fun w hL => instrsImplYes s _ j R w hL hr e ⟨h, h'⟩ hc⟩
    · have hj : j < s.size / 4 := by have := hr.le; omega
      exact ⟨0, j, 10, R, by omega, fun w => instrsSpecNo s _ j R w hr hj ⟨h, h'⟩, fun w hL => instrsImplWrong s _ j R w hL hr hj ⟨h, h'⟩ hc⟩
end Go.Proofs.YtbfoopfmjiilcaaDoor
