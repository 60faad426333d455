/- The program's look at an image's symbols: a symbol by itself. The program's look at an image's data by themselves. The program's look at an image's data by themselves. The program's look at an image's symbols: a symbol among the others. The program's look at an image's symbols, all of them. The program's look at an image's functions. The program's look at an image, whole: LintImage. The program's questions to images: ImageOK, AddressOf, SymbolNamed, SymbolAt. ImageTable of both. A reader of a text, plain: where it stands, and what it takes. A call that turns one block alone, and makes new ones. The program's reader: what its methods take. The program's reader: numbers, parts behind their length, a symbol. The program's reader: an image. Marks: a number's text, the marks of a list of symbols, and whether they still stand. A list of entries that comes in. -/
import Derived.Test.YtelogjpjglohoaaGreatDoorGXTabBase38
import Derived.Test.YtelogjpjglohoaaGreatDoorGXTabBase48
import Derived.Test.YtelogjpjglohoaaGreatDoorGXTabBase37
import Derived.Test.YtelogjpjglohoaaGreatDoorGXTabBase0
import Derived.DataShut
import Derived.Test.YtelogjpjglohoaaGreatDoorGXTabBase9
import Derived.Deep.RegionHeld3
import Derived.Deep.RegionLaw
import Derived.Deep.AppendLies
import Derived.Laws.IdiomStrings
namespace Go.Proofs.YtelogjpjglohoaaGreatDoor
open Go Go.RowKit
set_option linter.unusedVariables false

/-- The layout's cells. -/
abbrev layC (c s : ByteArray) (p : Option Addr) (n kk : Nat) (fe de : Int) : Array Value := #[.string c, .string s, .slice p n kk, .int .i64 fe, .int .i64 de]

theorem sizesC (c s : ByteArray) (p : Option Addr) (n kk : Nat) (w : World) (hc : c.size ≤ 1048576) (hs : s.size ≤ 1048576) (hn : n ≤ 1048576) :
    Calls Tryz.prog 63 #[.agg #[.string c, .string s, .slice p n kk]] w fun e w' => e = .returned (.int .i64 (if 16 < n then 6 else if 1024 < c.size ∨ 256 < s.size then 8 else 0)) ∧ Below w.heap.size w w' := by
  have bA := grown1' w (.cells #[.string c, .string s, .slice p n kk] 31)
  by_cases h16 : 16 < n
  · rw [if_pos h16]
    go_enter Tryz.func63, Tryz.ntmps63
    go_wp2_with fail
    go_ret
    exact ⟨rfl, bA⟩
  rw [if_neg h16]
  by_cases hCD : 1024 < c.size ∨ 256 < s.size
  · rw [if_pos hCD]
    have key : 1024 < c.size ∨ (c.size ≤ 1024 ∧ 256 < s.size) := by omega
    clear hCD
    rcases key with k | ⟨k, l⟩
    all_goals
      go_enter Tryz.func63, Tryz.ntmps63
      go_wp2_with fail
      go_ret
      exact ⟨rfl, bA⟩
  · rw [if_neg hCD]
    have k : c.size ≤ 1024 := by omega
    have l : s.size ≤ 256 := by omega
    clear hCD
    go_enter Tryz.func63, Tryz.ntmps63
    go_wp2_with fail
    go_ret
    exact ⟨rfl, bA⟩

/-- A function's fault, or where it ends. -/
def LayAns (g : Nat) (c s : ByteArray) (p : Option Addr) (n kk : Nat) (x fe de : Int) (w : World) (e : Ending) (w' : World) : Prop :=
  e = .returned (.int .i64 x) ∧ Below g w w' ∧ Lies w' g 111 (layC c s p n kk fe de)

set_option maxRecDepth 100000 in
set_option maxHeartbeats 4000000 in
theorem addFnYes (g : Nat) (c s nm : ByteArray) (p : Option Addr) (n kk : Nat) (fe de sz fr : Int) (w : World) (hl : Lies w g 111 (layC c s p n kk fe de)) (hc : c.size ≤ 1048576) (h0 : 0 ≤ fe) (h1 : 1 ≤ sz) (h2 : sz ≤ c.size - fe) :
    Calls Tryz.prog 85 #[.pointer (some ⟨g, 0, none⟩), .agg #[.string nm, .int .i64 1, .int .i64 fe, .int .i64 sz, .int .i64 fr]] w fun e w' => LayAns g c s p n kk 0 (fe + sz) de w e w' := by
  have hlt := hl.lt
  have bA := grown1' w (.cells #[.string nm, .int .i64 1, .int .i64 fe, .int .i64 sz, .int .i64 fr] 49)
  have l1 := hl.alloc (.cells #[.string nm, .int .i64 1, .int .i64 fe, .int .i64 sz, .int .i64 fr] 49)
  obtain ⟨W, hW⟩ : ∃ W, (w.alloc (.cells #[.string nm, .int .i64 1, .int .i64 fe, .int .i64 sz, .int .i64 fr] 49)) = W := ⟨_, rfl⟩
  obtain ⟨X, hX⟩ : ∃ X, w.heap.size = X := ⟨_, rfl⟩
  have z2 : W.cell? ⟨X, 2, none⟩ = some (.int .i64 fe) := by rw [← hW, ← hX]; simp
  have z3 : W.cell? ⟨X, 3, none⟩ = some (.int .i64 sz) := by rw [← hW, ← hX]; simp
  have hgx : g < X := by rw [← hX]; exact hlt
  have hne : g ≠ X := by omega
  rw [hW, hX] at bA
  rw [hW] at l1
  have HB : Hid (Below X w W) := bA
  have m0 := l1.cell (j := 0) rfl
  have m3 := l1.cell (j := 3) rfl
  have f3 := l1.fro 3
  have HL : Hid (Lies W g 111 (layC c s p n kk fe de)) := l1
  have d1 : decide (sz < 1) = false := by simpa using h1
  have q4 : IntKind.i64.wrap ((c.size : Int) - fe) = c.size - fe := by rw [IntKind.wrap_i64]; omega
  have d2 : decide ((c.size : Int) - fe < sz) = false := by simpa using h2
  go_enter Tryz.func85, Tryz.ntmps85
  go_wp2_with fail
  try rw [hW, hX]
  clear hl l1 bA hW hX
  go_region_held3 (fun w' => w'.cell? ⟨X, 2, none⟩ = some (.int .i64 fe) ∧ w'.cell? ⟨X, 3, none⟩ = some (.int .i64 sz) ∧ w'.cell? ⟨g, 0, none⟩ = some (.string c) ∧ w'.cell? ⟨g, 3, none⟩ = some (.int .i64 fe)) (go_keep) (fail)
  all_goals
    go_wp2_with fail
    go_ret
    refine ⟨rfl, ?_, ?_⟩
    · exact ((HB.out.mono (show g ≤ X by omega)).drew).setCell (p := ⟨g, 3, none⟩) (Nat.le_refl g) _
    · exact HL.out.drew.put 3 _

set_option maxRecDepth 100000 in
set_option maxHeartbeats 4000000 in
theorem addFnNo (g : Nat) (c s nm : ByteArray) (p : Option Addr) (n kk : Nat) (fe de pl sz fr : Int) (w : World) (hl : Lies w g 111 (layC c s p n kk fe de)) (hc : c.size ≤ 1048576) (h0 : 0 ≤ fe) (h1 : fe ≤ c.size) (h : ¬ (pl = fe ∧ 1 ≤ sz ∧ sz ≤ c.size - fe)) :
    Calls Tryz.prog 85 #[.pointer (some ⟨g, 0, none⟩), .agg #[.string nm, .int .i64 1, .int .i64 pl, .int .i64 sz, .int .i64 fr]] w fun e w' => LayAns g c s p n kk 4 fe de w e w' := by
  have hlt := hl.lt
  have bA := grown1' w (.cells #[.string nm, .int .i64 1, .int .i64 pl, .int .i64 sz, .int .i64 fr] 49)
  have l1 := hl.alloc (.cells #[.string nm, .int .i64 1, .int .i64 pl, .int .i64 sz, .int .i64 fr] 49)
  obtain ⟨W, hW⟩ : ∃ W, (w.alloc (.cells #[.string nm, .int .i64 1, .int .i64 pl, .int .i64 sz, .int .i64 fr] 49)) = W := ⟨_, rfl⟩
  obtain ⟨X, hX⟩ : ∃ X, w.heap.size = X := ⟨_, rfl⟩
  have z2 : W.cell? ⟨X, 2, none⟩ = some (.int .i64 pl) := by rw [← hW, ← hX]; simp
  have z3 : W.cell? ⟨X, 3, none⟩ = some (.int .i64 sz) := by rw [← hW, ← hX]; simp
  have z4 : W.cell? ⟨X, 4, none⟩ = some (.int .i64 fr) := by rw [← hW, ← hX]; simp
  have hgx : g < X := by rw [← hX]; exact hlt
  have hne : g ≠ X := by omega
  rw [hW, hX] at bA
  rw [hW] at l1
  have HB : Hid (Below g w W) := bA.mono (show g ≤ X by omega)
  have m0 := l1.cell (j := 0) rfl
  have m1 := l1.cell (j := 1) rfl
  have m3 := l1.cell (j := 3) rfl
  have m4 := l1.cell (j := 4) rfl
  have f4 := l1.fro 4
  have HL : Hid (Lies W g 111 (layC c s p n kk fe de)) := l1
  have key : ¬ pl = fe ∨ (pl = fe ∧ sz < 1) ∨ (pl = fe ∧ 1 ≤ sz ∧ c.size - fe < sz) := by omega
  clear h hl l1 bA
  rcases key with k | ⟨rfl, k⟩ | ⟨rfl, k, l⟩
  · have d0 : (pl != fe) = true := by simpa using k
    have d0' : (pl == fe) = false := by simpa using k
    go_enter Tryz.func85, Tryz.ntmps85
    go_wp2_with fail
    try rw [hW, hX]
    clear hW hX
    go_region
    all_goals
      go_wp2_with fail
      go_ret
      exact ⟨rfl, HB.out.drew, HL.out.drew⟩
  · have d1 : decide (sz < 1) = true := by simpa using k
    go_enter Tryz.func85, Tryz.ntmps85
    go_wp2_with fail
    try rw [hW, hX]
    clear hW hX
    go_region
    all_goals
      go_wp2_with fail
      go_ret
      exact ⟨rfl, HB.out.drew, HL.out.drew⟩
  · have d1 : decide (sz < 1) = false := by simpa using k
    have q4 : IntKind.i64.wrap ((c.size : Int) - pl) = c.size - pl := by rw [IntKind.wrap_i64]; omega
    have d2 : decide ((c.size : Int) - pl < sz) = true := by simpa using l
    go_enter Tryz.func85, Tryz.ntmps85
    go_wp2_with fail
    try rw [hW, hX]
    clear hW hX
    go_region_held3 (fun w' => w'.cell? ⟨X, 2, none⟩ = some (.int .i64 pl) ∧ w'.cell? ⟨X, 3, none⟩ = some (.int .i64 sz) ∧ w'.cell? ⟨X, 4, none⟩ = some (.int .i64 fr) ∧ w'.cell? ⟨g, 0, none⟩ = some (.string c) ∧ w'.cell? ⟨g, 1, none⟩ = some (.string s) ∧ w'.cell? ⟨g, 3, none⟩ = some (.int .i64 pl) ∧ w'.cell? ⟨g, 4, none⟩ = some (.int .i64 de)) (go_keep) (fail)
    all_goals
      go_wp2_with fail
      go_ret
      exact ⟨rfl, HB.out.drew, HL.out.drew⟩

end Go.Proofs.YtelogjpjglohoaaGreatDoor

namespace Go.Proofs.YtelogjpjglohoaaGreatDoor
open Go Go.RowKit
set_option linter.unusedVariables false

set_option maxRecDepth 100000 in
set_option maxHeartbeats 8000000 in
theorem addDatYes (g : Nat) (c s nm : ByteArray) (p : Option Addr) (n kk : Nat) (fe de pl sz fr : Int) (x : Int) (w : World) (hl : Lies w g 111 (layC c s p n kk fe de)) (hs : s.size ≤ 1048576) (h0 : 0 ≤ de) (h1 : de ≤ pl) (h2 : pl % 8 = 0) (h3 : 1 ≤ sz) (h4 : sz % 8 = 0) (h5 : sz ≤ s.size - pl)
    (hx : (fr = 0 ∧ x = 0) ∨ (fr ≠ 0 ∧ x = 17)) :
    Calls Tryz.prog 86 #[.pointer (some ⟨g, 0, none⟩), .agg #[.string nm, .int .i64 2, .int .i64 pl, .int .i64 sz, .int .i64 fr]] w fun e w' => LayAns g c s p n kk x fe (if x = 0 then pl + sz else de) w e w' := by
  have hlt := hl.lt
  have bA := grown1' w (.cells #[.string nm, .int .i64 2, .int .i64 pl, .int .i64 sz, .int .i64 fr] 49)
  have l1 := hl.alloc (.cells #[.string nm, .int .i64 2, .int .i64 pl, .int .i64 sz, .int .i64 fr] 49)
  obtain ⟨W, hW⟩ : ∃ W, (w.alloc (.cells #[.string nm, .int .i64 2, .int .i64 pl, .int .i64 sz, .int .i64 fr] 49)) = W := ⟨_, rfl⟩
  obtain ⟨X, hX⟩ : ∃ X, w.heap.size = X := ⟨_, rfl⟩
  have z2 : W.cell? ⟨X, 2, none⟩ = some (.int .i64 pl) := by rw [← hW, ← hX]; simp
  have z3 : W.cell? ⟨X, 3, none⟩ = some (.int .i64 sz) := by rw [← hW, ← hX]; simp
  have z4 : W.cell? ⟨X, 4, none⟩ = some (.int .i64 fr) := by rw [← hW, ← hX]; simp
  have hgx : g < X := by rw [← hX]; exact hlt
  have hne : g ≠ X := by omega
  rw [hW, hX] at bA
  rw [hW] at l1
  have HB : Hid (Below g w W) := bA.mono (show g ≤ X by omega)
  have m0 := l1.cell (j := 0) rfl
  have m1 := l1.cell (j := 1) rfl
  have m3 := l1.cell (j := 3) rfl
  have m4 := l1.cell (j := 4) rfl
  have f4 := l1.fro 4
  have HL : Hid (Lies W g 111 (layC c s p n kk fe de)) := l1
  have t1 : pl.tmod 8 = 0 := by rw [Int.tmod_eq_emod_of_nonneg (by omega)]; exact h2
  have t2 : sz.tmod 8 = 0 := by rw [Int.tmod_eq_emod_of_nonneg (by omega)]; exact h4
  have d0 : decide (pl < de) = false := by simpa using h1
  have d1 : decide (sz < 1) = false := by simpa using h3
  have q4 : IntKind.i64.wrap ((s.size : Int) - pl) = s.size - pl := by rw [IntKind.wrap_i64]; omega
  have d2 : decide ((s.size : Int) - pl < sz) = false := by simpa using h5
  clear hl l1 bA
  rcases hx with ⟨rfl, rfl⟩ | ⟨k, rfl⟩
  · rw [if_pos rfl]
    go_enter Tryz.func86, Tryz.ntmps86
    go_wp2_with fail
    try rw [hW, hX]
    clear hW hX
    go_region_held3 (fun w' => w'.cell? ⟨X, 2, none⟩ = some (.int .i64 pl) ∧ w'.cell? ⟨X, 3, none⟩ = some (.int .i64 sz) ∧ w'.cell? ⟨X, 4, none⟩ = some (.int .i64 0) ∧ w'.cell? ⟨g, 0, none⟩ = some (.string c) ∧ w'.cell? ⟨g, 1, none⟩ = some (.string s) ∧ w'.cell? ⟨g, 3, none⟩ = some (.int .i64 fe) ∧ w'.cell? ⟨g, 4, none⟩ = some (.int .i64 de)) (go_keep) (fail)
    go_wp2_with fail
    go_region_held3 (fun w' => w'.cell? ⟨X, 2, none⟩ = some (.int .i64 pl) ∧ w'.cell? ⟨X, 3, none⟩ = some (.int .i64 sz) ∧ w'.cell? ⟨X, 4, none⟩ = some (.int .i64 0) ∧ w'.cell? ⟨g, 0, none⟩ = some (.string c) ∧ w'.cell? ⟨g, 1, none⟩ = some (.string s) ∧ w'.cell? ⟨g, 3, none⟩ = some (.int .i64 fe) ∧ w'.cell? ⟨g, 4, none⟩ = some (.int .i64 de)) (go_keep) (fail)
    all_goals
      go_wp2_with fail
      go_ret
      refine ⟨rfl, ?_, ?_⟩
      · exact (HB.out.drew.drew).setCell (p := ⟨g, 4, none⟩) (Nat.le_refl g) _
      · exact HL.out.drew.drew.put 4 _
  · rw [if_neg (by decide)]
    have d3 : (fr == 0) = false := by simpa using k
    have d3' : (fr != 0) = true := by simpa using k
    go_enter Tryz.func86, Tryz.ntmps86
    go_wp2_with fail
    try rw [hW, hX]
    clear hW hX
    go_region_held3 (fun w' => w'.cell? ⟨X, 2, none⟩ = some (.int .i64 pl) ∧ w'.cell? ⟨X, 3, none⟩ = some (.int .i64 sz) ∧ w'.cell? ⟨X, 4, none⟩ = some (.int .i64 fr) ∧ w'.cell? ⟨g, 0, none⟩ = some (.string c) ∧ w'.cell? ⟨g, 1, none⟩ = some (.string s) ∧ w'.cell? ⟨g, 3, none⟩ = some (.int .i64 fe) ∧ w'.cell? ⟨g, 4, none⟩ = some (.int .i64 de)) (go_keep) (fail)
    go_wp2_with fail
    go_region_held3 (fun w' => w'.cell? ⟨X, 2, none⟩ = some (.int .i64 pl) ∧ w'.cell? ⟨X, 3, none⟩ = some (.int .i64 sz) ∧ w'.cell? ⟨X, 4, none⟩ = some (.int .i64 fr) ∧ w'.cell? ⟨g, 0, none⟩ = some (.string c) ∧ w'.cell? ⟨g, 1, none⟩ = some (.string s) ∧ w'.cell? ⟨g, 3, none⟩ = some (.int .i64 fe) ∧ w'.cell? ⟨g, 4, none⟩ = some (.int .i64 de)) (go_keep) (fail)
    all_goals
      go_wp2_with fail
      go_ret
      exact ⟨rfl, HB.out.drew.drew, HL.out.drew.drew⟩

end Go.Proofs.YtelogjpjglohoaaGreatDoor

namespace Go.Proofs.YtelogjpjglohoaaGreatDoor
open Go Go.RowKit
set_option linter.unusedVariables false

set_option maxRecDepth 100000 in
set_option maxHeartbeats 8000000 in
theorem addDatNo (g : Nat) (c s nm : ByteArray) (p : Option Addr) (n kk : Nat) (fe de pl sz fr : Int) (w : World) (hl : Lies w g 111 (layC c s p n kk fe de)) (hs : s.size ≤ 1048576) (h0 : 0 ≤ de) (hpw : pl ≤ 9223372036854775807)
    (h : ¬ (de ≤ pl ∧ pl % 8 = 0 ∧ 1 ≤ sz ∧ sz % 8 = 0 ∧ sz ≤ s.size - pl)) :
    Calls Tryz.prog 86 #[.pointer (some ⟨g, 0, none⟩), .agg #[.string nm, .int .i64 2, .int .i64 pl, .int .i64 sz, .int .i64 fr]] w fun e w' => LayAns g c s p n kk 4 fe de w e w' := by
  have hlt := hl.lt
  have bA := grown1' w (.cells #[.string nm, .int .i64 2, .int .i64 pl, .int .i64 sz, .int .i64 fr] 49)
  have l1 := hl.alloc (.cells #[.string nm, .int .i64 2, .int .i64 pl, .int .i64 sz, .int .i64 fr] 49)
  obtain ⟨W, hW⟩ : ∃ W, (w.alloc (.cells #[.string nm, .int .i64 2, .int .i64 pl, .int .i64 sz, .int .i64 fr] 49)) = W := ⟨_, rfl⟩
  obtain ⟨X, hX⟩ : ∃ X, w.heap.size = X := ⟨_, rfl⟩
  have z2 : W.cell? ⟨X, 2, none⟩ = some (.int .i64 pl) := by rw [← hW, ← hX]; simp
  have z3 : W.cell? ⟨X, 3, none⟩ = some (.int .i64 sz) := by rw [← hW, ← hX]; simp
  have z4 : W.cell? ⟨X, 4, none⟩ = some (.int .i64 fr) := by rw [← hW, ← hX]; simp
  have hgx : g < X := by rw [← hX]; exact hlt
  have hne : g ≠ X := by omega
  rw [hW, hX] at bA
  rw [hW] at l1
  have HB : Hid (Below g w W) := bA.mono (show g ≤ X by omega)
  have m0 := l1.cell (j := 0) rfl
  have m1 := l1.cell (j := 1) rfl
  have m3 := l1.cell (j := 3) rfl
  have m4 := l1.cell (j := 4) rfl
  have f4 := l1.fro 4
  have HL : Hid (Lies W g 111 (layC c s p n kk fe de)) := l1
  have key : pl < de ∨ (de ≤ pl ∧ ¬ pl % 8 = 0) ∨ (de ≤ pl ∧ pl % 8 = 0 ∧ sz < 1) ∨ (de ≤ pl ∧ pl % 8 = 0 ∧ 1 ≤ sz ∧ ¬ sz % 8 = 0) ∨ (de ≤ pl ∧ pl % 8 = 0 ∧ 1 ≤ sz ∧ sz % 8 = 0 ∧ s.size - pl < sz) := by omega
  clear h hl l1 bA
  rcases key with k | ⟨k, l⟩ | ⟨k, l, m⟩ | ⟨k, l, m, o⟩ | ⟨k, l, m, o, q⟩
  · have d0 : decide (pl < de) = true := by simpa using k
    go_enter Tryz.func86, Tryz.ntmps86
    go_wp2_with fail
    try rw [hW, hX]
    clear hW hX
    go_region
    all_goals
      go_wp2_with fail
      go_ret
      exact ⟨rfl, HB.out.drew, HL.out.drew⟩
  · have t1 : ¬ pl.tmod 8 = 0 := by rw [Int.tmod_eq_emod_of_nonneg (by omega)]; exact l
    have t3 : (pl.tmod 8 != 0) = true := by simpa using t1
    have t4 : (pl % 8 != 0) = true := by simpa using l
    have d0 : decide (pl < de) = false := by simpa using k
    go_enter Tryz.func86, Tryz.ntmps86
    go_wp2_with fail
    try rw [hW, hX]
    clear hW hX
    go_region_held3 (fun w' => w'.cell? ⟨X, 2, none⟩ = some (.int .i64 pl) ∧ w'.cell? ⟨X, 3, none⟩ = some (.int .i64 sz) ∧ w'.cell? ⟨X, 4, none⟩ = some (.int .i64 fr) ∧ w'.cell? ⟨g, 0, none⟩ = some (.string c) ∧ w'.cell? ⟨g, 1, none⟩ = some (.string s) ∧ w'.cell? ⟨g, 3, none⟩ = some (.int .i64 fe) ∧ w'.cell? ⟨g, 4, none⟩ = some (.int .i64 de)) (go_keep) (fail)
    all_goals
      go_wp2_with fail
      go_ret
      exact ⟨rfl, HB.out.drew, HL.out.drew⟩
  · have t1 : pl.tmod 8 = 0 := by rw [Int.tmod_eq_emod_of_nonneg (by omega)]; exact l
    have d0 : decide (pl < de) = false := by simpa using k
    have d1 : decide (sz < 1) = true := by simpa using m
    go_enter Tryz.func86, Tryz.ntmps86
    go_wp2_with fail
    try rw [hW, hX]
    clear hW hX
    go_region_held3 (fun w' => w'.cell? ⟨X, 2, none⟩ = some (.int .i64 pl) ∧ w'.cell? ⟨X, 3, none⟩ = some (.int .i64 sz) ∧ w'.cell? ⟨X, 4, none⟩ = some (.int .i64 fr) ∧ w'.cell? ⟨g, 0, none⟩ = some (.string c) ∧ w'.cell? ⟨g, 1, none⟩ = some (.string s) ∧ w'.cell? ⟨g, 3, none⟩ = some (.int .i64 fe) ∧ w'.cell? ⟨g, 4, none⟩ = some (.int .i64 de)) (go_keep) (fail)
    go_wp2_with fail
    go_region
    all_goals
      go_wp2_with fail
      go_ret
      exact ⟨rfl, HB.out.drew.drew, HL.out.drew.drew⟩
  · have t1 : pl.tmod 8 = 0 := by rw [Int.tmod_eq_emod_of_nonneg (by omega)]; exact l
    have d0 : decide (pl < de) = false := by simpa using k
    have d1 : decide (sz < 1) = false := by simpa using m
    have t2 : ¬ sz.tmod 8 = 0 := by rw [Int.tmod_eq_emod_of_nonneg (by omega)]; exact o
    have t3 : (sz.tmod 8 != 0) = true := by simpa using t2
    have t4 : (sz % 8 != 0) = true := by simpa using o
    go_enter Tryz.func86, Tryz.ntmps86
    go_wp2_with fail
    try rw [hW, hX]
    clear hW hX
    go_region_held3 (fun w' => w'.cell? ⟨X, 2, none⟩ = some (.int .i64 pl) ∧ w'.cell? ⟨X, 3, none⟩ = some (.int .i64 sz) ∧ w'.cell? ⟨X, 4, none⟩ = some (.int .i64 fr) ∧ w'.cell? ⟨g, 0, none⟩ = some (.string c) ∧ w'.cell? ⟨g, 1, none⟩ = some (.string s) ∧ w'.cell? ⟨g, 3, none⟩ = some (.int .i64 fe) ∧ w'.cell? ⟨g, 4, none⟩ = some (.int .i64 de)) (go_keep) (fail)
    go_wp2_with fail
    go_region
    all_goals
      go_wp2_with fail
      go_ret
      exact ⟨rfl, HB.out.drew.drew, HL.out.drew.drew⟩
  · have t1 : pl.tmod 8 = 0 := by rw [Int.tmod_eq_emod_of_nonneg (by omega)]; exact l
    have d0 : decide (pl < de) = false := by simpa using k
    have d1 : decide (sz < 1) = false := by simpa using m
    have t2 : sz.tmod 8 = 0 := by rw [Int.tmod_eq_emod_of_nonneg (by omega)]; exact o
    have q4 : IntKind.i64.wrap ((s.size : Int) - pl) = s.size - pl := by rw [IntKind.wrap_i64]; omega
    have d2 : decide ((s.size : Int) - pl < sz) = true := by simpa using q
    go_enter Tryz.func86, Tryz.ntmps86
    go_wp2_with fail
    try rw [hW, hX]
    clear hW hX
    go_region_held3 (fun w' => w'.cell? ⟨X, 2, none⟩ = some (.int .i64 pl) ∧ w'.cell? ⟨X, 3, none⟩ = some (.int .i64 sz) ∧ w'.cell? ⟨X, 4, none⟩ = some (.int .i64 fr) ∧ w'.cell? ⟨g, 0, none⟩ = some (.string c) ∧ w'.cell? ⟨g, 1, none⟩ = some (.string s) ∧ w'.cell? ⟨g, 3, none⟩ = some (.int .i64 fe) ∧ w'.cell? ⟨g, 4, none⟩ = some (.int .i64 de)) (go_keep) (fail)
    go_wp2_with fail
    go_region_held3 (fun w' => w'.cell? ⟨X, 2, none⟩ = some (.int .i64 pl) ∧ w'.cell? ⟨X, 3, none⟩ = some (.int .i64 sz) ∧ w'.cell? ⟨X, 4, none⟩ = some (.int .i64 fr) ∧ w'.cell? ⟨g, 0, none⟩ = some (.string c) ∧ w'.cell? ⟨g, 1, none⟩ = some (.string s) ∧ w'.cell? ⟨g, 3, none⟩ = some (.int .i64 fe) ∧ w'.cell? ⟨g, 4, none⟩ = some (.int .i64 de)) (go_keep) (fail)
    all_goals
      go_wp2_with fail
      go_ret
      exact ⟨rfl, HB.out.drew.drew, HL.out.drew.drew⟩
end Go.Proofs.YtelogjpjglohoaaGreatDoor

namespace Go.Proofs.YtelogjpjglohoaaGreatDoor
open Go Go.RowKit
set_option linter.unusedVariables false

/-- A symbol's fault; where it is right, the ends behind it. -/
def AddAns (g : Nat) (c s : ByteArray) (p : Option Addr) (n kk : Nat) (S : Nat → SymD) (k : Nat) (w : World) (e : Ending) (w' : World) : Prop :=
  e = .returned (.int .i64 (fltI c.size s.size S k)) ∧ Below g w w' ∧ ∃ fe de, Lies w' g 111 (layC c s p n kk fe de) ∧ (fltI c.size s.size S k = 0 → fe = cdU S (k + 1) ∧ de = dtU S (k + 1))
theorem AddAns.of {g : Nat} {c s : ByteArray} {p : Option Addr} {n kk : Nat} {S : Nat → SymD} {k : Nat} {w : World} {e : Ending} {w1 w' : World} {x fe de : Int} (hb : Below g w w1) (h : LayAns g c s p n kk x fe de w1 e w') (hx : fltI c.size s.size S k = x) (hy : x = 0 → fe = cdU S (k + 1) ∧ de = dtU S (k + 1)) : AddAns g c s p n kk S k w e w' := by
  obtain ⟨h1, h2, h3⟩ := h
  exact ⟨by rw [hx]; exact h1, hb.trans h2, fe, de, h3, fun h0 => hy (hx.symm.trans h0)⟩

set_option maxRecDepth 100000 in
set_option maxHeartbeats 8000000 in
theorem addC (g b o : Nat) (c s : ByteArray) (n kk : Nat) (S : Nat → SymD) (k : Nat) (w : World) (hk : k < n) (hn : n ≤ 16) (hkk : n ≤ kk) (hc : c.size ≤ 1024) (hs : s.size ≤ 256) (hw : (S k).wf) (hp : VRow w b o (n * 5) (symV S)) (hb : b < g)
    (hok : ∀ j, j < k → fltI c.size s.size S j = 0) (hl : Lies w g 111 (layC c s (some ⟨b, o, none⟩) n kk (cdU S k) (dtU S k))) :
    Calls Tryz.prog 65 #[.pointer (some ⟨g, 0, none⟩), .int .i64 k] w fun e w' => AddAns g c s (some ⟨b, o, none⟩) n kk S k w e w' := by
  obtain ⟨hcd, hdt⟩ := cdU_bd (C := c.size) (D := s.size) k (by omega) (by omega) hok
  obtain ⟨x0, x1, x2, x3, x4⟩ := hp.sym hk
  obtain ⟨hnw, _, w2, w3, w4⟩ := hw
  have hlt := hl.lt
  have m2 := hl.cell (j := 2) rfl
  obtain ⟨r, hr⟩ := fstNm_ex k S (S k).nm
  have hcl := hr.clash
  have hcu : cdU S (k + 1) = if (S k).kd = 1 then cdU S k + (S k).sz else cdU S k := rfl
  have hdu : dtU S (k + 1) = if (S k).kd = 2 then (S k).pl + (S k).sz else dtU S k := rfl
  have F0 := flt_nm (C := c.size) (D := s.size) (S := S) (i := k)
  have F1 := flt_cl (C := c.size) (D := s.size) (S := S) (i := k)
  have F2 := flt_k1 (C := c.size) (D := s.size) (S := S) (i := k)
  have F3 := flt_k2 (C := c.size) (D := s.size) (S := S) (i := k)
  have F4 := flt_k0 (C := c.size) (D := s.size) (S := S) (i := k)
  obtain ⟨cl, ecl⟩ : ∃ y, clashB S k = y := ⟨_, rfl⟩
  obtain ⟨cu, ecu⟩ : ∃ y, cdU S (k + 1) = y := ⟨_, rfl⟩
  obtain ⟨du, edu⟩ : ∃ y, dtU S (k + 1) = y := ⟨_, rfl⟩
  obtain ⟨fl, efl⟩ : ∃ y, fltI c.size s.size S k = y := ⟨_, rfl⟩
  have HF : Hid (fltI c.size s.size S k = fl) := efl
  have HCU : Hid (cdU S (k + 1) = cu) := ecu
  have HDU : Hid (dtU S (k + 1) = du) := edu
  have HP : Hid (VRow w b o (n * 5) (symV S)) := hp
  have HR : Hid (∀ w' : World, VRow w' b o (n * 5) (symV S) → b < w'.heap.size → Calls Tryz.prog 84 #[.slice (some ⟨b, o, none⟩) k kk, .string (S k).nm] w' fun e w'' => e = .returned (.int .i64 r) ∧ Below w'.heap.size w' w'') :=
    fun w' h h' => named _ k kk S _ w' (by omega) (.inr ⟨b, o, rfl, h', fun i hi => h i (by omega)⟩) r hr
  rw [ecu] at hcu
  rw [edu] at hdu
  rw [ecl] at hcl F1 F2 F3 F4
  rw [efl] at F0 F1 F2 F3 F4
  clear ecu edu efl ecl hp hok hr
  obtain ⟨cd, e5⟩ : ∃ y, cdU S k = y := ⟨_, rfl⟩
  obtain ⟨dt, e6⟩ : ∃ y, dtU S k = y := ⟨_, rfl⟩
  rw [e5] at hcd hcu hl F2
  rw [e6] at hdt hdu hl F3
  obtain ⟨nm, e0⟩ : ∃ y, (S k).nm = y := ⟨_, rfl⟩
  obtain ⟨kd, e1⟩ : ∃ y, (S k).kd = y := ⟨_, rfl⟩
  obtain ⟨pl, e2⟩ : ∃ y, (S k).pl = y := ⟨_, rfl⟩
  obtain ⟨sz, e3⟩ : ∃ y, (S k).sz = y := ⟨_, rfl⟩
  obtain ⟨fr, e4⟩ : ∃ y, (S k).fr = y := ⟨_, rfl⟩
  rw [e0] at x0 hnw HR F0 F1 F2 F3 F4
  rw [e1] at x1 hcu hdu F2 F3 F4
  rw [e2] at x2 w2 hdu F2 F3
  rw [e3] at x3 w3 hcu hdu F2 F3
  rw [e4] at x4 w4 F3
  clear e0 e1 e2 e3 e4 e5 e6
  have hpw : pl ≤ 9223372036854775807 := by rw [Lit.wf_int_iff, IntKind.min_i64, IntKind.max_i64] at w2; exact w2.2
  have bY := grown1' w (.cells #[.string nm, .int .i64 kd, .int .i64 pl, .int .i64 sz, .int .i64 fr] 49)
  have l1 := hl.alloc (.cells #[.string nm, .int .i64 kd, .int .i64 pl, .int .i64 sz, .int .i64 fr] 49)
  have hp1 := HP.out.below bY (Nat.lt_trans hb hlt)
  obtain ⟨W, hW⟩ : ∃ W, (w.alloc (.cells #[.string nm, .int .i64 kd, .int .i64 pl, .int .i64 sz, .int .i64 fr] 49)) = W := ⟨_, rfl⟩
  obtain ⟨Y, hY⟩ : ∃ Y, w.heap.size = Y := ⟨_, rfl⟩
  have z0 : W.cell? ⟨Y, 0, none⟩ = some (.string nm) := by rw [← hW, ← hY]; simp
  have z1 : W.cell? ⟨Y, 1, none⟩ = some (.int .i64 kd) := by rw [← hW, ← hY]; simp
  have z2 : W.cell? ⟨Y, 2, none⟩ = some (.int .i64 pl) := by rw [← hW, ← hY]; simp
  have z3 : W.cell? ⟨Y, 3, none⟩ = some (.int .i64 sz) := by rw [← hW, ← hY]; simp
  have z4 : W.cell? ⟨Y, 4, none⟩ = some (.int .i64 fr) := by rw [← hW, ← hY]; simp
  have zl : Y < W.heap.size := by rw [← hW, ← hY]; simp
  have hgY : g < Y := by rw [← hY]; exact hlt
  rw [hW] at bY l1 hp1
  rw [hY] at bY
  have HB : Hid (Below g w W) := bY.mono (Nat.le_of_lt hgY)
  have HL : Hid (Lies W g 111 (layC c s (some ⟨b, o, none⟩) n kk cd dt)) := l1
  have n2 := l1.cell (j := 2) rfl
  have HPW : Hid (VRow W b o (n * 5) (symV S)) := hp1
  have HC : Hid ((cl = true ∧ 0 ≤ r) ∨ (cl = false ∧ r = -1)) := hcl
  have G0 : Hid _ := F0
  have G1 : Hid _ := F1
  have G2 : Hid _ := F2
  have G3 : Hid _ := F3
  have G4 : Hid _ := F4
  have HCU' : Hid (cu = if kd = 1 then cd + sz else cd) := hcu
  have HDU' : Hid (du = if kd = 2 then pl + sz else dt) := hdu
  have hbW : b < W.heap.size := by omega
  have hkz : (0 : Int) ≤ (k : Int) := by omega
  have hkn : (k : Int) ≤ (kk : Int) := by omega
  go_enter Tryz.func65, Tryz.ntmps65
  go_wp2_with fail
  try rw [hW]
  try rw [hY]
  clear hW hY bY hl l1 hp1 F0 F1 F2 F3 F4 hcu hdu hcl m2 x0 x1 x2 x3 x4 HP
  refine (implName_any nm _ hnw).mono ?_
  rintro e w5 ⟨rfl, rfl⟩
  by_cases hname : nameB nm = false
  · have hfl := G0.out hname
    rw [hname]
    go_wp2_with fail
    go_ret
    exact AddAns.of HB.out ⟨rfl, Below.refl _ _, HL.out⟩ (HF.out.trans hfl) (fun h => by cases h)
  have hname' : nameB nm = true := by cases e : nameB nm <;> simp_all
  rw [hname']
  clear hname
  go_wp2_with fail
  go_region_held3 (fun w' => w'.cell? ⟨g, 2, none⟩ = some (.slice (some ⟨b, o, none⟩) n kk) ∧ w'.cell? ⟨Y, 0, none⟩ = some (.string nm)) (go_keep) (first | (go_at_call 84; refine (HR.out _ (by first | exact HPW.out | exact HPW.out.drew) (by exact hbW)).mono ?_; rintro e w6 ⟨rfl, hb6⟩; have b6 : Below w5.heap.size w5 w6 := (by first | exact hb6 | exact (Below.refl w5.heap.size w5).drew.trans hb6); have k2 := (b6.cell (p := ⟨g, 2, none⟩) (Nat.lt_trans hgY zl)).trans n2; have k0 := (b6.cell (p := ⟨Y, 0, none⟩) zl).trans z0))
  have l6 := HL.out.below b6 (Nat.lt_trans hgY zl)
  have q1 := (b6.cell (p := ⟨Y, 1, none⟩) zl).trans z1
  have q2 := (b6.cell (p := ⟨Y, 2, none⟩) zl).trans z2
  have q3 := (b6.cell (p := ⟨Y, 3, none⟩) zl).trans z3
  have q4 := (b6.cell (p := ⟨Y, 4, none⟩) zl).trans z4
  have H6 : Hid (Below g w w6) := HB.out.trans (b6.mono (by omega))
  have HL6 : Hid (Lies w6 g 111 (layC c s (some ⟨b, o, none⟩) n kk cd dt)) := l6
  clear hb6 b6 l6 z0 z1 z2 z3 z4 n2 HR HPW HL HB
  rcases HC.out with ⟨rfl, hr0⟩ | ⟨rfl, rfl⟩
  · have hfl := G1.out hname' rfl
    clear HC
    go_wp2_with fail
    go_ret
    exact AddAns.of H6.out ⟨rfl, Below.refl _ _, HL6.out⟩ (HF.out.trans hfl) (fun h => by cases h)
  clear HC G0 G1
  by_cases h1 : kd = 1
  · have hfl := G2.out hname' rfl h1
    subst h1
    have ecu : cu = cd + sz := by have := HCU'.out; rwa [if_pos rfl] at this
    have edu : du = dt := by have := HDU'.out; rwa [if_neg (by decide)] at this
    have ECU : Hid (cdU S (k + 1) = cd + sz) := HCU.out.trans ecu
    have EDU : Hid (dtU S (k + 1) = dt) := HDU.out.trans edu
    clear ecu edu HCU HDU HCU' HDU' G2 G3 G4
    by_cases hg : pl = cd ∧ 1 ≤ sz ∧ sz ≤ c.size - cd
    · rw [if_pos hg] at hfl
      obtain ⟨rfl, g1, g2⟩ := hg
      have HFL : Hid (fltI c.size s.size S k = 0) := HF.out.trans hfl
      clear hfl HF
      go_wp2_with fail
      refine (addFnYes g c s nm _ n kk pl dt sz fr w6 HL6.out (by omega) (by omega) g1 g2).mono ?_
      rintro e w7 ⟨rfl, hb7, hl7⟩
      have HA : Hid (AddAns g c s (some ⟨b, o, none⟩) n kk S k w (.returned (.int .i64 0)) w7) := AddAns.of H6.out ⟨rfl, hb7, hl7⟩ HFL.out (fun _ => ⟨ECU.out.symm, EDU.out.symm⟩)
      clear hb7 hl7 k2 k0 q1 q2 q3 q4
      go_wp2_with fail
      go_ret
      exact HA.out
    · rw [if_neg hg] at hfl
      have HFL : Hid (fltI c.size s.size S k = 4) := HF.out.trans hfl
      have HG : Hid (¬ (pl = cd ∧ 1 ≤ sz ∧ sz ≤ c.size - cd)) := hg
      clear hfl HF hg
      go_wp2_with fail
      refine (addFnNo g c s nm _ n kk cd dt pl sz fr w6 HL6.out (by omega) (by omega) (by omega) HG.out).mono ?_
      rintro e w7 ⟨rfl, hb7, hl7⟩
      have HA : Hid (AddAns g c s (some ⟨b, o, none⟩) n kk S k w (.returned (.int .i64 4)) w7) := AddAns.of H6.out ⟨rfl, hb7, hl7⟩ HFL.out (fun h => by cases h)
      clear hb7 hl7 k2 k0 q1 q2 q3 q4
      go_wp2_with fail
      go_ret
      exact HA.out
  have hb1 : (kd == 1) = false := by simpa using h1
  by_cases h2 : kd = 2
  · have hfl := G3.out hname' rfl h2
    subst h2
    have ecu : cu = cd := by have := HCU'.out; rwa [if_neg (by decide)] at this
    have edu : du = pl + sz := by have := HDU'.out; rwa [if_pos rfl] at this
    have ECU : Hid (cdU S (k + 1) = cd) := HCU.out.trans ecu
    have EDU : Hid (dtU S (k + 1) = pl + sz) := HDU.out.trans edu
    clear ecu edu HCU HDU HCU' HDU' G2 G3 G4
    by_cases hg : dt ≤ pl ∧ pl ≤ s.size ∧ 1 ≤ sz ∧ sz ≤ s.size - pl ∧ pl % 8 = 0 ∧ sz % 8 = 0
    · rw [if_pos hg] at hfl
      obtain ⟨g1, g2, g3, g4, g5, g6⟩ := hg
      have hx : (fr = 0 ∧ fl = 0) ∨ (fr ≠ 0 ∧ fl = 17) := by
        by_cases e : fr = 0
        · rw [if_pos e] at hfl; exact .inl ⟨e, hfl⟩
        · rw [if_neg e] at hfl; exact .inr ⟨e, hfl⟩
      have HX : Hid _ := hx
      clear hfl hx
      go_wp2_with fail
      refine (addDatYes g c s nm _ n kk cd dt pl sz fr fl w6 HL6.out (by omega) (by omega) g1 g5 g3 g6 g4 HX.out).mono ?_
      rintro e w7 ⟨rfl, hb7, hl7⟩
      have HA : Hid (AddAns g c s (some ⟨b, o, none⟩) n kk S k w (.returned (.int .i64 fl)) w7) := AddAns.of H6.out ⟨rfl, hb7, hl7⟩ HF.out (fun h => ⟨ECU.out.symm, by rw [if_pos h]; exact EDU.out.symm⟩)
      clear hb7 hl7 k2 k0 q1 q2 q3 q4
      go_wp2_with fail
      go_ret
      exact HA.out
    · rw [if_neg hg] at hfl
      have HFL : Hid (fltI c.size s.size S k = 4) := HF.out.trans hfl
      have HG : Hid (¬ (dt ≤ pl ∧ pl % 8 = 0 ∧ 1 ≤ sz ∧ sz % 8 = 0 ∧ sz ≤ s.size - pl)) := by show ¬ _; omega
      clear hfl HF hg
      go_wp2_with fail
      refine (addDatNo g c s nm _ n kk cd dt pl sz fr w6 HL6.out (by omega) (by omega) hpw HG.out).mono ?_
      rintro e w7 ⟨rfl, hb7, hl7⟩
      have HA : Hid (AddAns g c s (some ⟨b, o, none⟩) n kk S k w (.returned (.int .i64 4)) w7) := AddAns.of H6.out ⟨rfl, hb7, hl7⟩ HFL.out (fun h => by cases h)
      clear hb7 hl7 k2 k0 q1 q2 q3 q4
      go_wp2_with fail
      go_ret
      exact HA.out
  have hfl := G4.out hname' rfl h1 h2
  have hb2 : (kd == 2) = false := by simpa using h2
  clear G2 G3 G4
  go_wp2_with fail
  go_ret
  exact AddAns.of H6.out ⟨rfl, Below.refl _ _, HL6.out⟩ (HF.out.trans hfl) (fun h => by cases h)
end Go.Proofs.YtelogjpjglohoaaGreatDoor

namespace Go.Proofs.YtelogjpjglohoaaGreatDoor
open Go Go.RowKit
set_option linter.unusedVariables false

/-- A list of symbols below block g. -/
def SymsLow (w : World) (g : Nat) (p : Option Addr) (n : Nat) (S : Nat → SymD) : Prop := n = 0 ∨ ∃ b o, p = some ⟨b, o, none⟩ ∧ b < g ∧ VRow w b o (n * 5) (symV S)
theorem SymsLow.below {w w' : World} {g : Nat} {p : Option Addr} {n : Nat} {S : Nat → SymD} (h : SymsLow w g p n S) (hb : Below g w w') : SymsLow w' g p n S := by
  rcases h with h | ⟨b, o, e, hlt, hf⟩
  · exact .inl h
  · exact .inr ⟨b, o, e, hlt, hf.below hb hlt⟩

/-- The first symbol that is wrong, or none. -/
def SymAns (g : Nat) (c s : ByteArray) (p : Option Addr) (n kk : Nat) (S : Nat → SymD) (w : World) (e : Ending) (w' : World) : Prop :=
  Below g w w' ∧ ((∃ k, k < n ∧ (∀ j, j < k → fltI c.size s.size S j = 0) ∧ fltI c.size s.size S k ≠ 0 ∧ e = .returned (.tuple #[.int .i64 k, .int .i64 (fltI c.size s.size S k)])) ∨
    ((∀ j, j < n → fltI c.size s.size S j = 0) ∧ e = .returned (.tuple #[.int .i64 0, .int .i64 0]) ∧ Lies w' g 111 (layC c s p n kk (cdU S n) (dtU S n))))

set_option maxRecDepth 100000 in
set_option maxHeartbeats 4000000 in
theorem symFltC (g : Nat) (c s : ByteArray) (p : Option Addr) (n kk : Nat) (S : Nat → SymD) (w : World) (hn : n ≤ 16) (hkk : n ≤ kk) (hc : c.size ≤ 1024) (hs : s.size ≤ 256) (hw : ∀ i, i < n → (S i).wf) (hp : SymsLow w g p n S)
    (hl : Lies w g 111 (layC c s p n kk 0 0)) :
    Calls Tryz.prog 64 #[.int .i64 n, .func (.func 65) #[.pointer (some ⟨g, 0, none⟩)] #[]] w fun e w' => SymAns g c s p n kk S w e w' := by
  have HL : Hid (Lies w g 111 (layC c s p n kk 0 0)) := hl
  clear hl
  go_enter Tryz.func64, Tryz.ntmps64
  go_wp2_with fail
  go_loopw [9] (fun i wr => ∃ m : Nat, m ≤ n ∧ i = .int .i64 m ∧ (∀ j, j < m → fltI c.size s.size S j = 0) ∧ Below g w wr ∧ Lies wr g 111 (layC c s p n kk (cdU S m) (dtU S m))) (fun i _ => n - (intOf i).toNat)
  case atStart => exact ⟨0, Nat.zero_le _, rfl, fun j hj => absurd hj (Nat.not_lt_zero _), Below.refl _ _, HL.out⟩
  case round =>
    obtain ⟨m, hm, rfl, hok, hB, hl⟩ := hrel
    by_cases hlt : m < n
    · rcases hp with hp | ⟨b, o, rfl, hb, hp⟩
      · omega
      have add := addC g b o c s n kk S m wr hlt hn hkk hc hs (hw m hlt) (hp.below hB hb) hb hok hl
      have HOK : Hid (∀ j, j < m → fltI c.size s.size S j = 0) := hok
      have HB : Hid (Below g w wr) := hB
      obtain ⟨x, hx⟩ : ∃ x, fltI c.size s.size S m = x := ⟨_, rfl⟩
      have HX : Hid (fltI c.size s.size S m = x) := hx
      clear hok hB hl hp hw hx
      go_wp2_with fail
      refine add.mono ?_
      rintro e w2 ⟨rfl, hb2, fe, de, hl2, hz⟩
      have HB2 : Hid (Below g w w2) := HB.out.trans hb2
      have HL2 : Hid (Lies w2 g 111 (layC c s (some ⟨b, o, none⟩) n kk fe de)) := hl2
      have HZ : Hid (fltI c.size s.size S m = 0 → fe = cdU S (m + 1) ∧ de = dtU S (m + 1)) := hz
      rw [HX.out]
      clear add hb2 hl2 hz HB
      by_cases h0 : x = 0
      · subst h0
        obtain ⟨rfl, rfl⟩ := HZ.out HX.out
        go_wp2_with fail
        go_roundw
        case rel => exact ⟨m + 1, by omega, by go_num, fun j hj => by
          rcases Nat.lt_succ_iff_lt_or_eq.1 hj with h' | rfl
          · exact HOK.out j h'
          · exact HX.out, HB2.out, HL2.out⟩
        case measure => simp [intOf]; omega
      · have h0b : (x == 0) = false := by simpa using h0
        have h0c : (x != 0) = true := by simpa using h0
        have HA : Hid (SymAns g c s (some ⟨b, o, none⟩) n kk S w (.returned (.tuple #[.int .i64 m, .int .i64 x])) w2) :=
          ⟨HB2.out, .inl ⟨m, hlt, HOK.out, by rw [HX.out]; exact h0, by rw [HX.out]⟩⟩
        clear HZ HOK HX
        go_wp2_with fail
        go_ret2
        exact HA.out
    · obtain rfl : m = n := by omega
      have HA : Hid (SymAns g c s p m kk S w (.returned (.tuple #[.int .i64 0, .int .i64 0])) wr) := ⟨hB, .inr ⟨hok, rfl, hl⟩⟩
      clear hok hB hl hp hw
      go_wp2_with fail
      go_ret2
      exact HA.out

/-- The fault of all symbols together. -/
def whF (n : Nat) (C : Int) (S : Nat → SymD) : Int := if n = 0 ∨ (S 0).kd ≠ 1 then 23 else if cdU S n ≠ C then 22 else 0
set_option maxRecDepth 100000 in
set_option maxHeartbeats 4000000 in
theorem wholeFltC (g : Nat) (c s : ByteArray) (p : Option Addr) (n kk : Nat) (S : Nat → SymD) (fe de : Int) (w : World) (hc : c.size ≤ 1024) (hn : n ≤ 16) (hp : SymsLow w g p n S) (hl : Lies w g 111 (layC c s p n kk fe de)) (hfe : fe = cdU S n) :
    Calls Tryz.prog 66 #[.pointer (some ⟨g, 0, none⟩)] w fun e w' => e = .returned (.int .i64 (whF n c.size S)) ∧ Below w.heap.size w w' := by
  have m0 := hl.cell (j := 0) rfl
  have m2 := hl.cell (j := 2) rfl
  have m3 := hl.cell (j := 3) rfl
  unfold whF
  by_cases h0 : n = 0
  · subst h0
    rw [if_pos (.inl rfl)]
    clear hp hl m0 m3
    go_enter Tryz.func66, Tryz.ntmps66
    go_wp2_with fail
    go_ret
    exact ⟨rfl, Below.refl _ _⟩
  rcases hp with hp | ⟨b, o, rfl, hb, hp⟩
  · omega
  obtain ⟨x0, x1, x2, x3, x4⟩ := hp.sym (k := 0) (by omega)
  rw [Nat.zero_mul, Nat.add_zero] at x1
  obtain ⟨kd, e1⟩ : ∃ y, (S 0).kd = y := ⟨_, rfl⟩
  rw [e1] at x1 ⊢
  have h0z : (0 : Int) < (n : Int) := by omega
  have hnz : ((n : Int) == 0) = false := by simp; omega
  clear hp hl e1 x0 x2 x3 x4
  by_cases h1 : kd = 1
  · subst h1
    rw [if_neg (by omega)]
    by_cases hf : cdU S n = c.size
    · rw [if_neg (by omega)]
      have e : fe = c.size := hfe.trans hf
      subst e
      clear hfe hf
      go_enter Tryz.func66, Tryz.ntmps66
      go_wp2_with fail
      go_region
      all_goals
        go_wp2_with fail
        go_ret
        exact ⟨rfl, (Below.refl _ _).drew⟩
    · rw [if_pos hf]
      have e : ¬ fe = c.size := by rw [hfe]; exact hf
      have e' : (fe == (c.size : Int)) = false := by simpa using e
      clear hfe hf
      go_enter Tryz.func66, Tryz.ntmps66
      go_wp2_with fail
      go_region
      all_goals
        go_wp2_with fail
        go_ret
        exact ⟨rfl, (Below.refl _ _).drew⟩
  · have h1b : (kd == 1) = false := by simpa using h1
    rw [if_pos (.inr h1)]
    go_enter Tryz.func66, Tryz.ntmps66
    go_wp2_with fail
    go_ret
    exact ⟨rfl, Below.refl _ _⟩
end Go.Proofs.YtelogjpjglohoaaGreatDoor

namespace Go.Proofs.YtelogjpjglohoaaGreatDoor
open Go Go.RowKit
set_option linter.unusedVariables false

theorem OwnI.low {w : World} {B B' : Nat} {p : Option Addr} {n : Nat} {R : Nat → Int} (h : OwnI w B p n R) (hb : B' ≤ B) : OwnI w B' p n R := by
  rcases h with h | ⟨g, h1, h2, h3, h4⟩
  · exact .inl h
  · exact .inr ⟨g, h1, Nat.le_trans hb h2, h3, h4⟩
set_option maxRecDepth 100000 in
set_option maxHeartbeats 4000000 in
theorem placesC (c s : ByteArray) (p : Option Addr) (n kk : Nat) (S : Nat → SymD) (w : World) (hn : n ≤ 16) (hb : ∀ i, i < n → 0 ≤ (S i).pl ∧ (S i).pl ≤ 1048576) (hp : SymsAt w p n S) :
    Calls Tryz.prog 87 #[.agg #[.string c, .string s, .slice p n kk]] w fun e w' => (∃ q d, e = .returned (.slice q (entU S n).length d) ∧ OwnI w' w.heap.size q (entU S n).length (fun i => (entU S n).getD i 0)) ∧ Below w.heap.size w w' := by
  obtain ⟨i0, hi0, hz0, hz1, hz2⟩ := info_parts Tryz.info_int5
  have bA := grown1' w (.cells #[.string c, .string s, .slice p n kk] 31)
  have i2 : (w.alloc (.cells #[.string c, .string s, .slice p n kk] 31)).cell? ⟨w.heap.size, 2, none⟩ = some (.slice p n kk) := by simp
  have hp1 := hp.below bA
  obtain ⟨W, hW⟩ : ∃ W, (w.alloc (.cells #[.string c, .string s, .slice p n kk] 31)) = W := ⟨_, rfl⟩
  have HA : Hid (Below w.heap.size w W) := by rw [← hW]; exact bA
  rw [hW] at i2 hp1
  go_enter Tryz.func87, Tryz.ntmps87
  go_wp2_with fail
  try rw [hW]
  clear hW hp bA
  go_loopw [3, 9] (fun v i wr => ∃ k : Nat, k ≤ n ∧ i = .int .i64 k ∧ wr.ownsRow W.heap.size 3 1 v (entU S k).length ((entU S k).map (Value.int .i64)) ∧ Below W.heap.size W wr) (fun _ i _ => n - (intOf i).toNat)
  case atStart => exact ⟨0, Nat.zero_le _, rfl, World.ownsRow_nil _ _ _ _, Below.refl _ _⟩
  case round =>
    obtain ⟨k, hk, rfl, hown, hB⟩ := hrel
    by_cases hlt : k < n
    · rcases hp1 with hp | ⟨b, o, rfl, hbb, hp⟩
      · omega
      obtain ⟨x0, x1, x2, x3, x4⟩ := (hp.below hB hbb).sym hlt
      obtain ⟨p0, p1⟩ := hb k hlt
      obtain ⟨nm, e0⟩ : ∃ s, (S k).nm = s := ⟨_, rfl⟩
      obtain ⟨kd, e1⟩ : ∃ s, (S k).kd = s := ⟨_, rfl⟩
      obtain ⟨pl, e2⟩ : ∃ s, (S k).pl = s := ⟨_, rfl⟩
      obtain ⟨sz, e3⟩ : ∃ s, (S k).sz = s := ⟨_, rfl⟩
      obtain ⟨fr, e4⟩ : ∃ s, (S k).fr = s := ⟨_, rfl⟩
      rw [e0] at x0
      rw [e1] at x1
      rw [e2] at x2 p0 p1
      rw [e3] at x3
      rw [e4] at x4
      have hsz := hB.size
      have hlen := entU_len S k
      have eU := entU_succ S k
      rw [e1] at eU
      have bX := grown1' wr (.cells #[.string nm, .int .i64 kd, .int .i64 pl, .int .i64 sz, .int .i64 fr] 49)
      have hB1 := hB.trans (bX.mono hsz)
      have hownX := row_below hown bX
      clear hp hb
      by_cases h1 : kd = 1
      · have eP : plI' S k = 4096 + pl := by unfold plI'; rw [e1, e2, if_pos h1]
        rw [if_pos h1, eP] at eU
        subst h1
        have hpl := fun w' => placeImpl nm 1 pl sz fr w' p0 p1
        simp only [if_true] at hpl
        have HP : Hid (∀ w' : World, _) := hpl
        have EU : Hid (entU S (k + 1) = _) := eU
        clear e0 e1 e2 e3 e4 eP eU hpl
        go_wp2_with fail
        refine (HP.out _).mono ?_
        rintro e w2 ⟨rfl, hb2⟩
        have s1 := hB1.size
        have hown2 := row_below hownX hb2
        have hB2 := hB1.trans (hb2.mono s1)
        have s2 := hB2.size
        have HAs := HA.out.size
        clear hown hownX hB hB1 bX hb2 x0 x1 x2 x3 x4 HP
        go_wp2_with (at_builtin; refine wpList_append_own_at _ rfl _ _ 85 rfl W.heap.size 3 i0 _ 1 8 Tryz.underlying85 hi0 hz0 hz1 hz2 rfl (by decide) _ _ _ rfl (hown2.alloc _) ⟨w2.heap.size, 0, none⟩ 1 1 [.int .i64 (4096 + pl)] rfl rfl (World.news_of_block (cs := #[.int .i64 (4096 + pl)]) (t := 3) (fr := (0, 0)) (heap_alloc_new w2 _)) (by simp [Value.oneCell']) (by unfold maxLen; omega) (by omega) (by simp; omega) ?_; intro v' w4 hown4 hg4 hn4 hat4)
        go_roundw
        case rel =>
          refine ⟨k + 1, by omega, by go_num, ?_, (hB2.alloc s2 _).grown hg4 (by simp; omega) (fun i e => (hown2.lt i e).1)⟩
          rw [EU.out, List.length_append, List.map_append]
          exact hown4
        case measure => simp [intOf]; omega
      · rw [if_neg h1, List.append_nil] at eU
        have hb1 : (kd == 1) = false := by simpa using h1
        have EU : Hid (entU S (k + 1) = _) := eU
        clear e0 e1 e2 e3 e4 eU
        go_wp2_with fail
        go_roundw
        case rel => exact ⟨k + 1, by omega, by go_num, by rw [EU.out]; exact hownX, hB1⟩
        case measure => simp [intOf]; omega
    · obtain rfl : k = n := by omega
      obtain ⟨p9, c9, rfl, hc9, ho⟩ := ownI_of_row hown
      have HB : Hid (Below w.heap.size w wr) := HA.out.trans (hB.mono HA.out.size)
      clear hown hB
      go_wp2_with fail
      go_ret
      exact ⟨⟨p9, c9, rfl, ho.low HA.out.size⟩, HB.out⟩

set_option maxRecDepth 100000 in
set_option maxHeartbeats 8000000 in
theorem fnFltC (c s : ByteArray) (p : Option Addr) (n kk : Nat) (S : Nat → SymD) (L : Nat → Int × Int) (w : World) (hLd : Laid w) (hn1 : n ≤ 16) (hC1 : c.size ≤ 1024) (hD1 : s.size ≤ 256) (hall : ∀ j, j < n → fltI c.size s.size S j = 0) (hp : SymsAt w p n S)
    (hLn : ∀ i, i < n → (S i).kd = 1 → LintAt c S n i (L i)) (x y z : Int)
    (hfn : ∀ m, m < n → (S m).kd = 1 → (∀ j, j < m → (S j).kd = 1 → (L j).2 = 0) → (L m).2 ≠ 0 → x = ((m : Nat) : Int) ∧ y = (L m).1 ∧ z = (L m).2)
    (hfin : (∀ j, j < n → (S j).kd = 1 → (L j).2 = 0) → x = 0 ∧ y = 0 ∧ z = 0) :
    Calls Tryz.prog 67 #[.agg #[.string c, .string s, .slice p n kk]] w fun e w' => ThreeN w.heap.size x y z w e w' := by
  have bA := grown1' w (.cells #[.string c, .string s, .slice p n kk] 31)
  have i0 : (w.alloc (.cells #[.string c, .string s, .slice p n kk] 31)).cell? ⟨w.heap.size, 0, none⟩ = some (.string c) := by simp
  have i1 : (w.alloc (.cells #[.string c, .string s, .slice p n kk] 31)).cell? ⟨w.heap.size, 1, none⟩ = some (.string s) := by simp
  have i2 : (w.alloc (.cells #[.string c, .string s, .slice p n kk] 31)).cell? ⟨w.heap.size, 2, none⟩ = some (.slice p n kk) := by simp
  have hlt0 : w.heap.size < (w.alloc (.cells #[.string c, .string s, .slice p n kk] 31)).heap.size := by simp
  have hp1 := hp.below bA
  have hL1 := laid_below hLd bA
  obtain ⟨zs, hzs⟩ : ∃ zs, entU S n = zs := ⟨_, rfl⟩
  have hLN : ∀ i, i < n → (S i).kd = 1 → ∀ pc cc w, Laid w → IntsAt w pc (entU S n) → Calls Tryz.prog 88 #[.string (fnT c S i), .int .i64 (plI' S i), .int .i64 (S i).fr, .slice pc (entU S n).length cc] w fun e w' => TwoN w.heap.size (L i).1 (L i).2 w e w' := fun i hi hk => (hLn i hi hk).2
  rw [hzs] at hLN
  obtain ⟨N, hN⟩ : ∃ N, zs.length = N := ⟨_, rfl⟩
  have HLN : Hid (∀ i, i < n → (S i).kd = 1 → ∀ pc cc w, Laid w → IntsAt w pc zs → Calls Tryz.prog 88 #[.string (fnT c S i), .int .i64 (plI' S i), .int .i64 (S i).fr, .slice pc N cc] w fun e w' => TwoN w.heap.size (L i).1 (L i).2 w e w') := by rw [← hN]; exact hLN
  have HALL : Hid (∀ j, j < n → fltI c.size s.size S j = 0) := hall
  have HFN : Hid (∀ m, m < n → (S m).kd = 1 → (∀ j, j < m → (S j).kd = 1 → (L j).2 = 0) → (L m).2 ≠ 0 → x = ((m : Nat) : Int) ∧ y = (L m).1 ∧ z = (L m).2) := hfn
  have HFIN : Hid ((∀ j, j < n → (S j).kd = 1 → (L j).2 = 0) → x = 0 ∧ y = 0 ∧ z = 0) := hfin
  obtain ⟨w1, hW⟩ : ∃ W, (w.alloc (.cells #[.string c, .string s, .slice p n kk] 31)) = W := ⟨_, rfl⟩
  obtain ⟨X, hX⟩ : ∃ X, w.heap.size = X := ⟨_, rfl⟩
  have HA : Hid (Below X w w1) := by rw [← hX, ← hW]; exact bA
  rw [hW] at i0 i1 i2 hlt0 hp1 hL1
  rw [hX] at i0 i1 i2 hlt0
  have hent := placesC c s p n kk S w1 hn1 (fun i hi => pl_at hall (by omega) (by omega) (by omega) (by omega) hi) hp1
  rw [hzs, hN] at hent
  have HENT : Hid (∀ _ : Unit, Calls Tryz.prog 87 #[.agg #[.string c, .string s, .slice p n kk]] w1 fun e w' => (∃ q d, e = .returned (.slice q N d) ∧ OwnI w' w1.heap.size q N (fun i => zs.getD i 0)) ∧ Below w1.heap.size w1 w') := fun _ => hent
  clear hLn hLN hall hfn hfin hent hp hLd bA
  go_enter Tryz.func67, Tryz.ntmps67
  go_wp2_with fail
  try rw [hW]
  refine (HENT.out ()).mono ?_
  rintro e w2 ⟨⟨q, d, rfl, ho⟩, hb2⟩
  have hz : IntsAt w2 q zs := by unfold IntsAt; rw [hN]; exact ho.row
  have k0 := (hb2.cell (p := ⟨X, 0, none⟩) hlt0).trans i0
  have k1 := (hb2.cell (p := ⟨X, 1, none⟩) hlt0).trans i1
  have k2 := (hb2.cell (p := ⟨X, 2, none⟩) hlt0).trans i2
  have hlt2 := Nat.lt_of_lt_of_le hlt0 hb2.size
  have hp3 := hp1.below hb2
  have hL3 := laid_below hL1 hb2
  have H2 : Hid (Below X w w2) := HA.out.trans (hb2.mono (Nat.le_of_lt hlt0))
  clear hb2 i0 i1 i2 hp1 hL1 HENT ho hzs hN hW
  go_wp2_with fail
  try rw [hX]
  have HX : Hid (w.heap.size = X) := hX
  clear hX
  go_loopw [15] (fun i wr => ∃ m : Nat, m ≤ n ∧ i = .int .i64 m ∧ (∀ j, j < m → (S j).kd = 1 → (L j).2 = 0) ∧ Below w2.heap.size w2 wr) (fun i _ => n - (intOf i).toNat)
  case atStart => exact ⟨0, Nat.zero_le _, rfl, fun j hj => absurd hj (Nat.not_lt_zero _), Below.refl _ _⟩
  case round =>
    obtain ⟨m, hm, rfl, hok, hB⟩ := hrel
    have l0 := (hB.cell (p := ⟨X, 0, none⟩) hlt2).trans k0
    have l2 := (hB.cell (p := ⟨X, 2, none⟩) hlt2).trans k2
    have hsz := hB.size
    by_cases hlt : m < n
    · rcases hp3 with hp3 | ⟨b, o, rfl, hb, hp3⟩
      · omega
      obtain ⟨x0, x1, x2, x3, x4⟩ := (hp3.below hB hb).sym hlt
      have hfa := fun hk => fn_at HALL.out (by omega) (by omega) hlt hk
      have hli := HLN.out m hlt
      unfold fnT plI' at hli
      obtain ⟨nm, e0⟩ : ∃ s, (S m).nm = s := ⟨_, rfl⟩
      obtain ⟨kd, e1⟩ : ∃ s, (S m).kd = s := ⟨_, rfl⟩
      obtain ⟨pl, e2⟩ : ∃ s, (S m).pl = s := ⟨_, rfl⟩
      obtain ⟨sz, e3⟩ : ∃ s, (S m).sz = s := ⟨_, rfl⟩
      obtain ⟨fr, e4⟩ : ∃ s, (S m).fr = s := ⟨_, rfl⟩
      rw [e0] at x0
      rw [e1] at x1 hfa hli
      rw [e2] at x2 hfa hli
      rw [e3] at x3 hfa hli
      rw [e4] at x4 hli
      have E1 : Hid (_ = kd) := e1
      have HOK : Hid (∀ j, j < m → (S j).kd = 1 → (L j).2 = 0) := hok
      have bX := grown1' wr (.cells #[.string nm, .int .i64 kd, .int .i64 pl, .int .i64 sz, .int .i64 fr] 49)
      have hB1 := hB.trans (bX.mono hsz)
      by_cases h1 : kd = 1
      · subst h1
        obtain ⟨f0, f1, f2⟩ := hfa rfl
        rw [if_pos rfl] at hli
        have hli' := hli rfl
        obtain ⟨pn, rfl⟩ := Int.eq_ofNat_of_zero_le f0
        obtain ⟨sn, rfl⟩ := Int.eq_ofNat_of_zero_le (show 0 ≤ sz by omega)
        have ex : ((pn : Int) + (sn : Int)).toNat = pn + sn := by omega
        have ex0 : ((pn : Int)).toNat = pn := by omega
        rw [ex, ex0] at hli'
        obtain ⟨r1, g1⟩ : ∃ r, (L m).1 = r := ⟨_, rfl⟩
        obtain ⟨r2, g2⟩ : ∃ r, (L m).2 = r := ⟨_, rfl⟩
        rw [g1, g2] at hli'
        have HLI : Hid (∀ pc cc w, Laid w → IntsAt w pc zs → Calls Tryz.prog 88 #[.string (c.extract pn (pn + sn)), .int .i64 (4096 + (pn : Int)), .int .i64 fr, .slice pc N cc] w fun e w' => TwoN w.heap.size r1 r2 w e w') := hli'
        have hpl := fun w' => placeImpl nm 1 pn sn fr w' (by omega) (by omega)
        simp only [if_true] at hpl
        have HPL : Hid (∀ w' : World, _) := hpl
        have G1 : Hid (_ = r1) := g1
        have G2 : Hid (_ = r2) := g2
        have z0 : (wr.alloc (.cells #[.string nm, .int .i64 1, .int .i64 pn, .int .i64 sn, .int .i64 fr] 49)).cell? ⟨wr.heap.size, 0, none⟩ = some (.string nm) := by simp
        have z1 : (wr.alloc (.cells #[.string nm, .int .i64 1, .int .i64 pn, .int .i64 sn, .int .i64 fr] 49)).cell? ⟨wr.heap.size, 1, none⟩ = some (.int .i64 1) := by simp
        have z2 : (wr.alloc (.cells #[.string nm, .int .i64 1, .int .i64 pn, .int .i64 sn, .int .i64 fr] 49)).cell? ⟨wr.heap.size, 2, none⟩ = some (.int .i64 pn) := by simp
        have z3 : (wr.alloc (.cells #[.string nm, .int .i64 1, .int .i64 pn, .int .i64 sn, .int .i64 fr] 49)).cell? ⟨wr.heap.size, 3, none⟩ = some (.int .i64 sn) := by simp
        have z4 : (wr.alloc (.cells #[.string nm, .int .i64 1, .int .i64 pn, .int .i64 sn, .int .i64 fr] 49)).cell? ⟨wr.heap.size, 4, none⟩ = some (.int .i64 fr) := by simp
        have zl : wr.heap.size < (wr.alloc (.cells #[.string nm, .int .i64 1, .int .i64 pn, .int .i64 sn, .int .i64 fr] 49)).heap.size := by simp
        have y0 := (bX.cell (p := ⟨X, 0, none⟩) (Nat.lt_of_lt_of_le hlt2 hsz)).trans l0
        have hz1 := (hz.below hB).below bX
        have hLd1 := laid_below (laid_below hL3 hB) bX
        clear e0 e1 e2 e3 e4 g1 g2 hli hli' hpl hfa hok bX
        go_wp2_with fail
        obtain ⟨W1, hW1⟩ : ∃ W1, (wr.alloc (.cells #[.string nm, .int .i64 1, .int .i64 pn, .int .i64 sn, .int .i64 fr] 49)) = W1 := ⟨_, rfl⟩
        obtain ⟨Y, hY⟩ : ∃ Y, wr.heap.size = Y := ⟨_, rfl⟩
        have hX1 : X < W1.heap.size := by rw [← hW1]; have := Nat.lt_of_lt_of_le hlt2 hsz; simp; omega
        rw [hW1] at z0 z1 z2 z3 z4 zl y0 hz1 hB1 hLd1 ⊢
        rw [hY] at z0 z1 z2 z3 z4 zl ⊢
        have HB1 : Hid (Below w2.heap.size w2 W1) := hB1
        have HLW : Hid (Laid W1) := hLd1
        have q1 : (0 : Int) ≤ (pn : Int) := by omega
        have q2 : (pn : Int) ≤ (pn : Int) + (sn : Int) := by omega
        have q3 : (pn : Int) + (sn : Int) ≤ (c.size : Int) := f2
        have q4 : IntKind.i64.wrap ((pn : Int) + (sn : Int)) = (pn : Int) + (sn : Int) := by rw [IntKind.wrap_i64]; omega
        have s1 := hB1.size
        clear hB1 hW1 hY hB x0 x1 x2 x3 x4 l0 l2 hsz hp3 hz hLd1
        go_region_held3 (fun w' => w'.cell? ⟨X, 0, none⟩ = some (.string c) ∧ w'.cell? ⟨Y, 0, none⟩ = some (.string nm) ∧ w'.cell? ⟨Y, 1, none⟩ = some (.int .i64 1) ∧ w'.cell? ⟨Y, 2, none⟩ = some (.int .i64 pn) ∧ w'.cell? ⟨Y, 3, none⟩ = some (.int .i64 sn) ∧ w'.cell? ⟨Y, 4, none⟩ = some (.int .i64 fr)) (go_keep) (first | (go_at_call 26; refine (HPL.out _).mono ?_; rintro e w3 ⟨rfl, hb3⟩; have B3 : Below W1.heap.size W1 w3 := (by first | exact hb3 | exact (Below.refl W1.heap.size W1).drew.trans hb3); have a0 := (B3.cell (p := ⟨X, 0, none⟩) hX1).trans y0; have a1 := (B3.cell (p := ⟨Y, 0, none⟩) zl).trans z0; have a2 := (B3.cell (p := ⟨Y, 1, none⟩) zl).trans z1; have a3 := (B3.cell (p := ⟨Y, 2, none⟩) zl).trans z2; have a4 := (B3.cell (p := ⟨Y, 3, none⟩) zl).trans z3; have a5 := (B3.cell (p := ⟨Y, 4, none⟩) zl).trans z4; have hz3 := hz1.below B3; have hl3 := laid_below HLW.out B3; have s3 := B3.size) | (go_at_call 88; refine (HLI.out _ _ _ hl3 hz3).mono ?_; rintro e w4 ⟨rfl, hb4⟩; have B4 : Below W1.heap.size W1 w4 := B3.trans (hb4.mono s3); have b0 := (B4.cell (p := ⟨X, 0, none⟩) hX1).trans y0; have b1 := (B4.cell (p := ⟨Y, 0, none⟩) zl).trans z0; have b2 := (B4.cell (p := ⟨Y, 1, none⟩) zl).trans z1; have b3 := (B4.cell (p := ⟨Y, 2, none⟩) zl).trans z2; have b4 := (B4.cell (p := ⟨Y, 3, none⟩) zl).trans z3; have b5 := (B4.cell (p := ⟨Y, 4, none⟩) zl).trans z4))
        have HB4 : Hid (Below w2.heap.size w2 w4) := HB1.out.trans (B4.mono HB1.out.size)
        clear a0 a1 a2 a3 a4 a5 b0 b1 b2 b3 b4 b5 hz3 hl3 hb3 hb4 B3 B4 s3 y0 z0 z1 z2 z3 z4 hz1
        by_cases hr : r2 = 0
        · subst hr
          go_wp2_with fail
          go_roundw
          case rel => exact ⟨m + 1, by omega, by go_num, fun j hj hk => by
            rcases Nat.lt_succ_iff_lt_or_eq.1 hj with h' | rfl
            · exact HOK.out j h' hk
            · exact G2.out, HB4.out⟩
          case measure => simp [intOf]; omega
        · obtain ⟨rfl, e1, e2⟩ := HFN.out m hlt E1.out HOK.out (by rw [G2.out]; exact hr)
          rw [G1.out] at e1
          rw [G2.out] at e2
          subst e1 e2
          have hrb : (z == 0) = false := by simpa using hr
          go_wp2_with fail
          refine bodyPost_ret (v := .tuple #[.int .i64 m, .int .i64 y, .int .i64 z]) (by simp [results, Tryz.results67, go_sem]) rfl ⟨rfl, by rw [HX.out]; exact H2.out.trans (HB4.out.mono (Nat.le_of_lt hlt2))⟩
      · have hb1 : (kd == 1) = false := by simpa using h1
        clear e0 e1 e2 e3 e4 hli hfa hok
        go_wp2_with fail
        go_roundw
        case rel => exact ⟨m + 1, by omega, by go_num, fun j hj hk => by
          rcases Nat.lt_succ_iff_lt_or_eq.1 hj with h' | rfl
          · exact HOK.out j h' hk
          · exact absurd (E1.out.symm.trans hk) h1, hB1⟩
        case measure => simp [intOf]; omega
    · obtain rfl : m = n := by omega
      obtain ⟨rfl, rfl, rfl⟩ := HFIN.out hok
      clear hok
      go_wp2_with fail
      refine bodyPost_ret (v := .tuple #[.int .i64 0, .int .i64 0, .int .i64 0]) (by simp [results, Tryz.results67, go_sem]) rfl ⟨rfl, by rw [HX.out]; exact H2.out.trans (hB.mono (Nat.le_of_lt hlt2))⟩
end Go.Proofs.YtelogjpjglohoaaGreatDoor

namespace Go.Proofs.YtelogjpjglohoaaGreatDoor
open Go Go.RowKit
set_option linter.unusedVariables false

set_option maxRecDepth 100000 in
set_option maxHeartbeats 8000000 in
theorem progImg (c s : ByteArray) (p : Option Addr) (n kk : Nat) (S : Nat → SymD) (L : Nat → Int × Int) (w : World) (hL : Laid w) (hkk : n ≤ kk) (hc : c.size ≤ 1048576) (hs : s.size ≤ 1048576) (hn : n ≤ 1048576) (hw : ∀ i, i < n → (S i).wf) (hp : SymsAt w p n S) (x y z : Int) (hl : ImgIs n c.size s.size S L x y z)
    (hf : n ≤ 16 ∧ c.size ≤ 1024 ∧ s.size ≤ 256 ∧ SymsIs n c.size s.size S 0 0 → ∀ i, i < n → (S i).kd = 1 → LintAt c S n i (L i)) :
    Calls Tryz.prog 43 #[.agg #[.string c, .string s, .slice p n kk]] w fun e w' => ThreeN w.heap.size x y z w e w' := by
  have bA := grown1' w (.cells #[.string c, .string s, .slice p n kk] 31)
  have i0 : (w.alloc (.cells #[.string c, .string s, .slice p n kk] 31)).cell? ⟨w.heap.size, 0, none⟩ = some (.string c) := by simp
  have i1 : (w.alloc (.cells #[.string c, .string s, .slice p n kk] 31)).cell? ⟨w.heap.size, 1, none⟩ = some (.string s) := by simp
  have i2 : (w.alloc (.cells #[.string c, .string s, .slice p n kk] 31)).cell? ⟨w.heap.size, 2, none⟩ = some (.slice p n kk) := by simp
  have hlt0 : w.heap.size < (w.alloc (.cells #[.string c, .string s, .slice p n kk] 31)).heap.size := by simp
  have hp1 := hp.below bA
  have hL1 := laid_below hL bA
  obtain ⟨w1, hW⟩ : ∃ W, (w.alloc (.cells #[.string c, .string s, .slice p n kk] 31)) = W := ⟨_, rfl⟩
  obtain ⟨X, hX⟩ : ∃ X, w.heap.size = X := ⟨_, rfl⟩
  have HA : Hid (Below X w w1) := by rw [← hX, ← hW]; exact bA
  rw [hW] at i0 i1 i2 hlt0 hp1 hL1
  rw [hX] at i0 i1 i2 hlt0
  have HX : Hid (w.heap.size = X) := hX
  have HI : Hid (ImgIs n c.size s.size S L x y z) := hl
  have HF : Hid (n ≤ 16 ∧ c.size ≤ 1024 ∧ s.size ≤ 256 ∧ SymsIs n c.size s.size S 0 0 → ∀ i, i < n → (S i).kd = 1 → LintAt c S n i (L i)) := hf
  have HW : Hid (∀ i, i < n → (S i).wf) := hw
  have HP1 : Hid (SymsAt w1 p n S) := hp1
  have HL1 : Hid (Laid w1) := hL1
  obtain ⟨fs, hfs⟩ : ∃ f : Int, (if 16 < n then 6 else if 1024 < c.size ∨ 256 < s.size then 8 else 0) = f := ⟨_, rfl⟩
  have sz := sizesC c s p n kk w1 hc hs hn
  rw [hfs] at sz
  have HS : Hid (_ = fs) := hfs
  clear bA hl hf hp hL hw hp1 hL1 hfs
  go_enter Tryz.func43, Tryz.ntmps43
  go_wp2_with fail
  try rw [hW]
  refine sz.mono ?_
  rintro e w2 ⟨rfl, hb2⟩
  have j0 := (hb2.cell (p := ⟨X, 0, none⟩) hlt0).trans i0
  have j1 := (hb2.cell (p := ⟨X, 1, none⟩) hlt0).trans i1
  have j2 := (hb2.cell (p := ⟨X, 2, none⟩) hlt0).trans i2
  have hlt2 := Nat.lt_of_lt_of_le hlt0 hb2.size
  have hp2 := HP1.out.below hb2
  have hL2 := laid_below HL1.out hb2
  have H2 : Hid (Below X w w2) := HA.out.trans (hb2.mono (Nat.le_of_lt hlt0))
  clear hb2 i0 i1 i2 hW hX sz HP1 HL1
  by_cases h0 : fs = 0
  · have key : n ≤ 16 ∧ c.size ≤ 1024 ∧ s.size ≤ 256 := by
      have := HS.out
      rw [h0] at this
      split at this
      · omega
      · split at this <;> omega
    obtain ⟨hn1, hC1, hD1⟩ := key
    subst h0
    clear HS
    have bL := grown1' w2 (.cells (layC c s p n kk 0 0) 111)
    have lies := Lies.new w2 (layC c s p n kk 0 0) 111
    have HP2 : Hid (SymsAt w2 p n S) := hp2
    have HL2 : Hid (Laid w2) := hL2
    clear hp2 hL2
    go_wp2_with fail
    obtain ⟨w3, hW3⟩ : ∃ W, (w2.alloc (.cells #[.string c, .string s, .slice p n kk, .int .i64 0, .int .i64 0] 111)) = W := ⟨_, rfl⟩
    obtain ⟨g, hg⟩ : ∃ g, w2.heap.size = g := ⟨_, rfl⟩
    have low2 : SymsLow w2 g p n S := by
      rcases HP2.out with h | ⟨b, o, e, hb, hv⟩
      · exact .inl h
      · exact .inr ⟨b, o, e, by rw [← hg]; exact hb, hv⟩
    rw [hW3, hg] at bL lies ⊢
    rw [hg] at hlt2
    have H3 : Hid (Below g w2 w3) := bL
    have low3 := low2.below bL
    have LOW3 : Hid (SymsLow w3 g p n S) := low3
    have HG : Hid (w2.heap.size = g) := hg
    clear bL hW3 hg low2 low3
    refine (symFltC g c s p n kk S w3 hn1 hkk hC1 hD1 HW.out LOW3.out lies).mono ?_
    rintro e w4 ⟨hb4, hcase⟩
    have H4 : Hid (Below g w2 w4) := H3.out.trans hb4
    have LOW4 : Hid (SymsLow w4 g p n S) := LOW3.out.below hb4
    clear hb4 lies H3 LOW3
    rcases hcase with ⟨k, hk, hok, hne, rfl⟩ | ⟨hok, rfl, hl4⟩
    · obtain ⟨v, hv⟩ : ∃ v, fltI c.size s.size S k = v := ⟨_, rfl⟩
      have key : x = ((k : Nat) : Int) ∧ y = 0 ∧ z = v := by
        have hs1 := SymsIs.flt (n := n) k hk hok hne
        have hl := HI.out
        cases hl with
        | many a => omega
        | size a b => omega
        | syms x' y' a b d hs' hy => obtain ⟨e1, e2⟩ := hs'.uniq hs1; exact ⟨e1, rfl, e2.trans hv⟩
        | fn q a b d hs' => exact absurd (hs'.uniq hs1).2.symm hne
        | ok a b d hs' => exact absurd (hs'.uniq hs1).2.symm hne
      obtain ⟨rfl, rfl, rfl⟩ := key
      rw [hv] at hne ⊢
      have hzb : (z == 0) = false := by simpa using hne
      clear hok hv HI HF HW LOW4 HP2 HL2 j0 j1 j2
      go_wp2_with fail
      refine bodyPost_ret (v := .tuple #[.int .i64 k, .int .i64 0, .int .i64 z]) (by simp [results, Tryz.results43, go_sem]) rfl ⟨rfl, by rw [HX.out]; exact H2.out.trans (H4.out.mono (Nat.le_of_lt hlt2))⟩
    · have HOK : Hid (∀ j, j < n → fltI c.size s.size S j = 0) := hok
      obtain ⟨fe, hfe⟩ : ∃ v, cdU S n = v := ⟨_, rfl⟩
      obtain ⟨de, hde⟩ : ∃ v, dtU S n = v := ⟨_, rfl⟩
      rw [hfe, hde] at hl4
      have HFE : Hid (cdU S n = fe) := hfe
      obtain ⟨wf, hwf⟩ : ∃ v, whF n c.size S = v := ⟨_, rfl⟩
      have HWF : Hid (whF n c.size S = wf) := hwf
      have wh := wholeFltC g c s p n kk S fe de w4 hC1 hn1 LOW4.out hl4 HFE.out.symm
      rw [hwf] at wh
      clear hok hfe hde hwf hl4
      go_wp2_with fail
      refine wh.mono ?_
      rintro e w5 ⟨rfl, hb5⟩
      have s4 : g ≤ w4.heap.size := by rw [← HG.out]; exact H4.out.size
      have H5 : Hid (Below g w2 w5) := H4.out.trans (hb5.mono s4)
      have k0 := (H5.out.cell (p := ⟨X, 0, none⟩) hlt2).trans j0
      have k1 := (H5.out.cell (p := ⟨X, 1, none⟩) hlt2).trans j1
      have k2 := (H5.out.cell (p := ⟨X, 2, none⟩) hlt2).trans j2
      clear hb5 wh H4 LOW4 j0 j1 j2
      by_cases h1 : wf = 0
      · have hs1 : SymsIs n c.size s.size S 0 0 := by
          have e := HWF.out
          rw [h1] at e
          unfold whF at e
          split at e
          · omega
          rename_i a
          split at e
          · omega
          rename_i b
          exact .ok HOK.out (by omega) (Classical.byContradiction fun h => a (.inr h)) (Classical.byContradiction fun h => b h)
        subst h1
        have hl := HI.out
        have hfn : ∀ m, m < n → (S m).kd = 1 → (∀ j, j < m → (S j).kd = 1 → (L j).2 = 0) → (L m).2 ≠ 0 → x = ((m : Nat) : Int) ∧ y = (L m).1 ∧ z = (L m).2 := by
          intro m hm hk hb hne
          cases hl with
          | many a => omega
          | size a b => omega
          | syms x' y' a b d hs' hy => exact absurd (hs'.uniq hs1).2 hy
          | fn k a b d hs' hk' hf' hb' hn' =>
            by_cases h1 : k < m
            · exact absurd (hb k h1 hf') hn'
            · by_cases h2 : m < k
              · exact absurd (hb' m h2 hk) hne
              · obtain rfl : k = m := by omega
                exact ⟨rfl, rfl, rfl⟩
          | ok a b d hs' hb' => exact absurd (hb' m hm hk) hne
        have hfin : (∀ j, j < n → (S j).kd = 1 → (L j).2 = 0) → x = 0 ∧ y = 0 ∧ z = 0 := by
          intro hb
          cases hl with
          | many a => omega
          | size a b => omega
          | syms x' y' a b d hs' hy => exact absurd (hs'.uniq hs1).2 hy
          | fn k a b d hs' hk' hf' hb' hn' => exact absurd (hb k hk' hf') hn'
          | ok => exact ⟨rfl, rfl, rfl⟩
        have H5' : Below w2.heap.size w2 w5 := by rw [HG.out]; exact H5.out
        have ff := fnFltC c s p n kk S L w5 (laid_below HL2.out H5') hn1 hC1 hD1 HOK.out (HP2.out.below H5') (HF.out ⟨hn1, hC1, hD1, hs1⟩) x y z hfn hfin
        have s5 : X ≤ w5.heap.size := by have h1 := H5'.size; have h2 := HG.out; omega
        clear HI HF HW HL2 HP2 HOK HWF HFE hl hfn hfin hs1 H5'
        go_wp2_with fail
        refine ff.mono ?_
        rintro e w6 ⟨rfl, hb6⟩
        have bel := (H2.out.trans (H5.out.mono (Nat.le_of_lt hlt2))).trans (hb6.mono s5)
        clear ff hb6 k0 k1 k2
        go_wp2_with fail
        refine bodyPost_ret (v := .tuple #[.int .i64 x, .int .i64 y, .int .i64 z]) (by simp [results, Tryz.results43, go_sem]) rfl ⟨rfl, by rw [HX.out]; exact bel⟩
      · have h1b : (wf == 0) = false := by simpa using h1
        have key : x = 0 ∧ y = 0 ∧ z = wf := by
          have hs1 : SymsIs n c.size s.size S 0 wf := by
            have e := HWF.out
            unfold whF at e
            split at e
            · rename_i a; subst e; exact .nosym HOK.out a
            rename_i a
            split at e
            · rename_i b
              subst e
              exact .short HOK.out (by omega) (Classical.byContradiction fun h => a (.inr h)) b
            · exact absurd e.symm h1
          have hl := HI.out
          cases hl with
          | many a => omega
          | size a b => omega
          | syms x' y' a b d hs' hy => obtain ⟨e1, e2⟩ := hs'.uniq hs1; exact ⟨e1, rfl, e2⟩
          | fn q a b d hs' => exact absurd (hs'.uniq hs1).2.symm h1
          | ok a b d hs' => exact absurd (hs'.uniq hs1).2.symm h1
        obtain ⟨rfl, rfl, rfl⟩ := key
        clear HI HF HW HL2 HP2 HOK HWF HFE
        go_wp2_with fail
        refine bodyPost_ret (v := .tuple #[.int .i64 0, .int .i64 0, .int .i64 z]) (by simp [results, Tryz.results43, go_sem]) rfl ⟨rfl, by rw [HX.out]; exact H2.out.trans (H5.out.mono (Nat.le_of_lt hlt2))⟩
  · have hb0 : (fs == 0) = false := by simpa using h0
    have key : x = 0 ∧ y = 0 ∧ z = fs := by
      have e := HS.out
      have hl := HI.out
      cases hl with
      | many a => rw [if_pos a] at e; exact ⟨rfl, rfl, e⟩
      | size a b => rw [if_neg (by omega), if_pos b] at e; exact ⟨rfl, rfl, e⟩
      | syms x' y' a b d => rw [if_neg (by omega), if_neg (by omega)] at e; exact absurd e.symm h0
      | fn k a b d => rw [if_neg (by omega), if_neg (by omega)] at e; exact absurd e.symm h0
      | ok a b d => rw [if_neg (by omega), if_neg (by omega)] at e; exact absurd e.symm h0
    obtain ⟨rfl, rfl, rfl⟩ := key
    clear HS HI HF HW hp2 hL2
    go_wp2_with fail
    refine bodyPost_ret (v := .tuple #[.int .i64 0, .int .i64 0, .int .i64 z]) (by simp [results, Tryz.results43, go_sem]) rfl ⟨rfl, by rw [HX.out]; exact H2.out⟩
end Go.Proofs.YtelogjpjglohoaaGreatDoor

namespace Go.Proofs.YtelogjpjglohoaaGreatDoor
open Go Go.RowKit
set_option linter.unusedVariables false

theorem progOK (c s : ByteArray) (n : Nat) (S : Nat → SymD) (x y z : Int) (h : ∀ p kk w, n ≤ kk → Laid w → SymsAt w p n S → Calls Tryz.prog 43 #[.agg #[.string c, .string s, .slice p n kk]] w fun e w' => ThreeN w.heap.size x y z w e w') : PrOK c s n S (z == 0) := by
  intro p kk w hkk hL hp
  have bA := grown1' w (.cells #[.string c, .string s, .slice p n kk] 31)
  have H := h p kk _ hkk (laid_below hL bA) (hp.below bA)
  go_enter Tryz.func24, Tryz.ntmps24
  go_wp2_with fail
  refine H.mono ?_
  rintro e w2 ⟨rfl, hb2⟩
  have B2 := bA.trans (hb2.mono bA.size)
  clear hb2
  go_wp2_with fail
  go_ret
  exact ⟨rfl, B2⟩

theorem progAddr (c s : ByteArray) (p : Option Addr) (n kk : Nat) (S : Nat → SymD) (b : Bool) (m : Int) (w : World) (hkk : n ≤ kk) (hn : n ≤ 1048576) (hm : (Lit.int .i64 m).wf = true) (hb : PrOK c s n S b) (hok : b = true → SymsOK n S) (hL : Laid w) (hp : SymsAt w p n S) :
    Calls Tryz.prog 17 #[.agg #[.string c, .string s, .slice p n kk], .int .i64 m] w fun e w' => TwoI w.heap.size (adX S n b m).1 (adX S n b m).2 w e w' := by
  have bA := grown1' w (.cells #[.string c, .string s, .slice p n kk] 31)
  have H := hb p kk _ hkk (laid_below hL bA) (hp.below bA)
  have i2 : (w.alloc (.cells #[.string c, .string s, .slice p n kk] 31)).cell? ⟨w.heap.size, 2, none⟩ = some (.slice p n kk) := by simp
  have hl0 : w.heap.size < (w.alloc (.cells #[.string c, .string s, .slice p n kk] 31)).heap.size := by simp
  have hp1 := hp.below bA
  clear hL
  unfold adX
  cases b
  · rw [if_pos rfl]
    go_enter Tryz.func17, Tryz.ntmps17
    go_wp2_with fail
    refine H.mono ?_
    rintro e w2 ⟨rfl, hb2⟩
    have B2 := bA.trans (hb2.mono bA.size)
    clear hb2
    go_wp2_with fail
    go_ret2
    exact ⟨rfl, B2⟩
  · rw [if_neg (by decide)]
    by_cases hr : m < 0 ∨ (n : Int) ≤ m
    · rw [if_pos hr]
      have key : m < 0 ∨ (0 ≤ m ∧ (n : Int) ≤ m) := by omega
      clear hr
      rcases key with k | ⟨k, l⟩
      all_goals
        go_enter Tryz.func17, Tryz.ntmps17
        go_wp2_with fail
        refine H.mono ?_
        rintro e w2 ⟨rfl, hb2⟩
        have B2 := bA.trans (hb2.mono bA.size)
        have j2 := (hb2.cell (p := ⟨w.heap.size, 2, none⟩) hl0).trans i2
        clear hb2 i2
        go_wp2_with fail
        go_ret2
        exact ⟨rfl, B2⟩
    · rw [if_neg hr]
      obtain ⟨q, rfl⟩ := Int.eq_ofNat_of_zero_le (show 0 ≤ m by omega)
      have hq : q < n := by omega
      obtain ⟨h0, h1⟩ := (hok rfl).pl q hq
      have hpl := fun w' => placeImpl (S q).nm (S q).kd (S q).pl (S q).sz (S q).fr w' h0 h1
      show Calls _ _ _ _ fun e w' => TwoI w.heap.size (plI' S ((q : Int)).toNat) 0 w e w'
      rw [show ((q : Int)).toNat = q from by omega]
      unfold plI'
      obtain ⟨r, hr⟩ : ∃ r, (if (S q).kd = 1 then 4096 + (S q).pl else 16384 + (S q).pl) = r := ⟨_, rfl⟩
      rw [hr] at hpl ⊢
      clear hr hok
      go_enter Tryz.func17, Tryz.ntmps17
      go_wp2_with fail
      refine H.mono ?_
      rintro e w2 ⟨rfl, hb2⟩
      have B2 := bA.trans (hb2.mono bA.size)
      have j2 := (hb2.cell (p := ⟨w.heap.size, 2, none⟩) hl0).trans i2
      rcases hp1.below hb2 with hp2 | ⟨bb, o, rfl, hbb, hp2⟩
      · omega
      obtain ⟨x0, x1, x2, x3, x4⟩ := hp2.sym hq
      clear hb2 i2 hp1 hp2 H
      go_wp2_with fail
      refine (hpl _).mono ?_
      rintro e w3 ⟨rfl, hb3⟩
      have B3 := B2.trans (hb3.mono B2.size)
      clear hb3 x0 x1 x2 x3 x4 B2
      go_wp2_with fail
      go_ret2
      exact ⟨rfl, B3⟩

end Go.Proofs.YtelogjpjglohoaaGreatDoor

namespace Go.Proofs.YtelogjpjglohoaaGreatDoor
open Go Go.RowKit
set_option linter.unusedVariables false

/-- A table and a code, the table the call's own. -/
def TabOne (B : Nat) (n : Nat) (E : Nat → EntD) (x : Int) (w : World) (e : Ending) (w' : World) : Prop :=
  ∃ q d, e = .returned (.tuple #[.slice q n d, .int .i64 x]) ∧ n ≤ d ∧ OwnR w' B q n 6 (entV E) ∧ Below B w w'

set_option maxHeartbeats 2000000 in
theorem tabSY (c s : ByteArray) (p : Option Addr) (n kk : Nat) (S : Nat → SymD) (w : World) (hok : OKIs c s n S true) (hn : n ≤ 16) (hb : ∀ i, i < n → 0 ≤ (S i).pl ∧ (S i).pl ≤ 1048576) (hp : SymsAt w p n S) :
    Calls Tryz.prog 6 #[.agg #[.string c, .string s, .slice p n kk]] w fun e w' => TabOne w.heap.size n (entOf S) 0 w e w' := by
  have bA := grown1' w (.cells #[.string c, .string s, .slice p n kk] 31)
  have lA := Lies.new w #[.string c, .string s, .slice p n kk] 31
  obtain ⟨W, hW⟩ : ∃ W, (w.alloc (.cells #[.string c, .string s, .slice p n kk] 31)) = W := ⟨_, rfl⟩
  rw [hW] at bA lA
  have HC := hok p kk W (hp.below bA)
  have i0 := lA.cell (j := 0) rfl
  have i1 := lA.cell (j := 1) rfl
  have i2 := lA.cell (j := 2) rfl
  go_enter Tryz.func6, Tryz.ntmps6
  go_wp2_with fail
  try rw [hW]
  clear hW
  try go_wp2_with fail
  refine HC.mono ?_
  rintro e w1 ⟨rfl, hb1⟩
  have B1 := bA.trans (hb1.mono bA.size)
  have l1 := lA.below hb1 lA.lt
  have j0 := l1.cell (j := 0) rfl
  have j1 := l1.cell (j := 1) rfl
  have j2 := l1.cell (j := 2) rfl
  have hT := tabS c s p n kk S w1 hn hb (hp.below B1)
  clear i0 i1 i2 HC hb1 l1 lA
  go_wp2_with fail
  refine hT.mono ?_
  rintro e w2 ⟨⟨q, d, rfl, hd, ho⟩, hb2⟩
  go_wp2_with fail
  go_ret2
  exact ⟨q, d, rfl, hd, ho.low B1.size, B1.trans (hb2.mono B1.size)⟩
set_option maxHeartbeats 2000000 in
theorem tabSNo (c s : ByteArray) (p : Option Addr) (n kk : Nat) (S : Nat → SymD) (E : Nat → EntD) (w : World) (hok : OKIs c s n S false) (hp : SymsAt w p n S) :
    Calls Tryz.prog 6 #[.agg #[.string c, .string s, .slice p n kk]] w fun e w' => TabOne w.heap.size 0 E 1 w e w' := by
  have bA := grown1' w (.cells #[.string c, .string s, .slice p n kk] 31)
  have HC := hok p kk _ (hp.below bA)
  go_enter Tryz.func6, Tryz.ntmps6
  go_wp2_with fail
  refine HC.mono ?_
  rintro e w1 ⟨rfl, hb1⟩
  have B1 := bA.trans (hb1.mono (by simp))
  go_wp2_with fail
  go_ret2
  exact ⟨_, _, rfl, Nat.le_refl _, .inl rfl, B1.alloc B1.size _⟩

theorem ImgIs.names {c s : ByteArray} {n : Nat} {S : Nat → SymD} {L : Nat → Int × Int} {x y : Int} (h : ImgIs n c.size s.size S L x y 0) : ∀ i, i < n → (S i).nm.size ≤ 20 := by
  have key : n ≤ 16 ∧ c.size ≤ 1024 ∧ s.size ≤ 256 ∧ ∀ j, j < n → fltI c.size s.size S j = 0 := by
    generalize hz : (0 : Int) = z at h
    cases h with
    | many => cases hz
    | size => cases hz
    | syms x y a b d hs hy => exact absurd hz.symm hy
    | fn k a b d hs hk hf hb hn => exact absurd hz.symm hn
    | ok a b d hs => exact ⟨a, b, d, hs.all⟩
  obtain ⟨k1, k2, k3, k4⟩ := key
  intro i hi
  obtain ⟨h1, _⟩ := flt_ok (k4 i hi)
  rcases Nat.lt_or_ge 20 (S i).nm.size with h2 | h2
  · rw [nameB_long _ h2] at h1; cases h1
  · exact h2
/-- Both tell of an image whether it is right, and what one that is right holds. -/
theorem okTab (c s : ByteArray) (n : Nat) (S : Nat → SymD) (hc : c.size ≤ 1048576) (hs : s.size ≤ 1048576) (hn : n ≤ 1048576) (hw : ∀ i, i < n → (S i).wf) : ∃ b : Bool, OKIs c s n S b ∧ PrOK c s n S b ∧ (b = true → SymsOK n S ∧ ∀ i, i < n → (S i).nm.size ≤ 20) := by
  obtain ⟨L, hL⟩ := lint_all c s n S hw
  obtain ⟨x, y, z, hl⟩ := img_ex n c.size s.size S L
  have h7 : ∀ p kk w', SymsAt w' p n S → Calls Tryz.prog 40 #[.agg #[.string c, .string s, .slice p n kk]] w' fun e w'' => ThreeN w'.heap.size x y z w' e w'' :=
    fun p kk w' hp => specImg c s p n kk S L w' hc hs hn hw hp x y z hl (fun h i hi hk => (hL h i hi hk).1)
  refine ⟨z == 0, fun p kk w hp => specOK c s p n kk S x y z w (h7 p kk) hp, progOK c s n S x y z (fun p kk w hkk hLd hp => progImg c s p n kk S L w hLd hkk hc hs hn hw hp x y z hl hL), fun h => ?_⟩
  obtain rfl : z = 0 := eq_of_beq h
  exact ⟨hl.right, hl.names⟩

theorem tabBoth (c s : ByteArray) (n : Nat) (S : Nat → SymD) (hc : c.size ≤ 1048576) (hs : s.size ≤ 1048576) (hn : n ≤ 1048576) (hw : ∀ i, i < n → (S i).wf) : ∃ (N : Nat) (E : Nat → EntD) (x : Int), N ≤ 16 ∧
    (∀ p kk w, SymsAt w p n S → Calls Tryz.prog 6 #[.agg #[.string c, .string s, .slice p n kk]] w fun e w' => TabOne w.heap.size N E x w e w') ∧
    (∀ p kk w, n ≤ kk → Laid w → SymsAt w p n S → Calls Tryz.prog 8 #[.agg #[.string c, .string s, .slice p n kk]] w fun e w' => TabOne w.heap.size N E x w e w') := by
  obtain ⟨b, hO, hP, hz⟩ := okTab c s n S hc hs hn hw
  cases b
  · refine ⟨0, fun _ => default, 1, by omega, fun p kk w hp => tabSNo c s p n kk S _ w hO hp, fun p kk w hkk hL hp => (tabPNo c s p n kk S w hkk hL hP hp).mono ?_⟩
    rintro e w' ⟨⟨q, d, rfl⟩, hb⟩
    exact ⟨q, d, rfl, Nat.zero_le _, .inl rfl, hb⟩
  · obtain ⟨hok, hnm⟩ := hz rfl
    refine ⟨n, entOf S, 0, hok.n16, fun p kk w hp => tabSY c s p n kk S w hO hok.n16 hok.pl hp, fun p kk w hkk hL hp => (tabP c s p n kk S w hkk hL hP hok.n16 (fun i hi => Nat.le_trans (hnm i hi) (by omega)) hok.pl hp).mono ?_⟩
    rintro e w' ⟨⟨q, d, rfl, hd, ho⟩, hb⟩
    exact ⟨q, d, rfl, hd, ho, hb⟩
end Go.Proofs.YtelogjpjglohoaaGreatDoor

namespace Go.Proofs.YtelogjpjglohoaaGreatDoor
open Go Go.RowKit
set_option linter.unusedVariables false

/-- Where a reader stands, and whether something was cut off. -/
structure RS where
  p : Nat
  bad : Bool
def RS.ok (t : ByteArray) (r : RS) (n : Nat) : Bool := !r.bad && decide (r.p + n ≤ t.size)
/-- Behind a part of n bytes. -/
def RS.nx (t : ByteArray) (r : RS) (n : Nat) : RS := if r.ok t n = true then ⟨r.p + n, false⟩ else ⟨r.p, true⟩
/-- The part. -/
def RS.tk (t : ByteArray) (r : RS) (n : Nat) : ByteArray := if r.ok t n = true then t.extract r.p (r.p + n) else ByteArray.empty
/-- .. as a number. -/
def RS.nb (t : ByteArray) (r : RS) (n : Nat) : Nat := valF (bt (r.tk t n)) (r.tk t n).size
/-- A part behind its length. -/
def RS.ct (t : ByteArray) (r : RS) (k : Nat) : ByteArray := (r.nx t k).tk t (r.nb t k)
def RS.cx (t : ByteArray) (r : RS) (k : Nat) : RS := (r.nx t k).nx t (r.nb t k)
theorem RS.yes {t : ByteArray} {r : RS} {n : Nat} (h : r.bad = false) (h1 : r.p + n ≤ t.size) : r.nx t n = ⟨r.p + n, false⟩ ∧ r.tk t n = t.extract r.p (r.p + n) := by
  have : r.ok t n = true := by unfold RS.ok; rw [h]; simp [h1]
  unfold RS.nx RS.tk
  rw [if_pos this, if_pos this]
  exact ⟨rfl, rfl⟩
theorem RS.no {t : ByteArray} {r : RS} {n : Nat} (h : r.bad = true ∨ t.size < r.p + n) : r.nx t n = ⟨r.p, true⟩ ∧ r.tk t n = ByteArray.empty := by
  have : r.ok t n = false := by
    unfold RS.ok
    rcases h with h | h
    · rw [h]; rfl
    · have : ¬ r.p + n ≤ t.size := by omega
      simp [this]
  unfold RS.nx RS.tk
  rw [if_neg (by rw [this]; decide), if_neg (by rw [this]; decide)]
  exact ⟨rfl, rfl⟩
theorem RS.le {t : ByteArray} {r : RS} (n : Nat) (h : r.p ≤ t.size) : (r.nx t n).p ≤ t.size := by
  unfold RS.nx
  split
  · rename_i e
    unfold RS.ok at e
    simp at e
    exact e.2
  · exact h
theorem RS.tk_size (t : ByteArray) (r : RS) (n : Nat) : (r.tk t n).size ≤ n := by
  unfold RS.tk
  split
  · rw [ByteArray.size_extract]; omega
  · exact Nat.zero_le _
theorem RS.tk_le (t : ByteArray) (r : RS) (n : Nat) : (r.tk t n).size ≤ t.size := by
  unfold RS.tk
  split
  · rw [ByteArray.size_extract]; omega
  · exact Nat.zero_le _
theorem RS.nb_lt (t : ByteArray) (r : RS) (n : Nat) (hn : n ≤ 2) : r.nb t n < 65536 := by
  have h := valF_lt (bt (r.tk t n)) (r.tk t n).size
  have h1 := r.tk_size t n
  have h2 : 256 ^ (r.tk t n).size ≤ 256 ^ 2 := Nat.pow_le_pow_right (by decide) (by omega)
  have h3 : (256 : Nat) ^ 2 = 65536 := by decide
  unfold RS.nb
  omega
theorem RS.nb1_lt (t : ByteArray) (r : RS) : r.nb t 1 < 256 := by
  have h := valF_lt (bt (r.tk t 1)) (r.tk t 1).size
  have h1 := r.tk_size t 1
  have h2 : 256 ^ (r.tk t 1).size ≤ 256 ^ 1 := Nat.pow_le_pow_right (by decide) (by omega)
  have h3 : (256 : Nat) ^ 1 = 256 := by decide
  unfold RS.nb
  omega
theorem RS.cx_le {t : ByteArray} {r : RS} (k : Nat) (h : r.p ≤ t.size) : (r.cx t k).p ≤ t.size := RS.le _ (RS.le _ h)
/-- A symbol. -/
def RS.r1 (t : ByteArray) (r : RS) : RS := r.cx t 1
def RS.r2 (t : ByteArray) (r : RS) : RS := (r.r1 t).nx t 1
def RS.r3 (t : ByteArray) (r : RS) : RS := (r.r2 t).nx t 2
def RS.r4 (t : ByteArray) (r : RS) : RS := (r.r3 t).nx t 2
def RS.sx (t : ByteArray) (r : RS) : RS := (r.r4 t).nx t 1
def RS.sy (t : ByteArray) (r : RS) : SymD := ⟨r.ct t 1, (r.r1 t).nb t 1, (r.r2 t).nb t 2, (r.r3 t).nb t 2, (r.r4 t).nb t 1⟩
theorem RS.sx_le {t : ByteArray} {r : RS} (h : r.p ≤ t.size) : (r.sx t).p ≤ t.size := RS.le _ (RS.le _ (RS.le _ (RS.le _ (RS.cx_le _ h))))
def RS.at (t : ByteArray) (r : RS) : Nat → RS
  | 0 => r
  | m + 1 => (RS.at t r m).sx t
theorem RS.at_le {t : ByteArray} {r : RS} (h : r.p ≤ t.size) : ∀ m, (RS.at t r m).p ≤ t.size
  | 0 => h
  | m + 1 => RS.sx_le (RS.at_le h m)
theorem RS.sy_wf {t : ByteArray} {r : RS} : (r.sy t).wf := by
  have h1 := (r.r1 t).nb1_lt t
  have h2 := (r.r2 t).nb_lt t 2 (by omega)
  have h3 := (r.r3 t).nb_lt t 2 (by omega)
  have h4 := (r.r4 t).nb1_lt t
  have h5 := (r.nx t 1).tk_size t (r.nb t 1)
  have h6 := r.nb1_lt t
  have key : ∀ x : Nat, x < 65536 → (Lit.int .i64 (x : Int)).wf = true := fun x hx => by
    rw [Lit.wf_int_iff, IntKind.min_i64, IntKind.max_i64]
    omega
  exact ⟨by show ((r.nx t 1).tk t (r.nb t 1)).size ≤ maxLen; unfold maxLen; omega, key _ (by omega), key _ h2, key _ h3, key _ (by omega)⟩
theorem ext_ext (t : ByteArray) (p n : Nat) (h : p + n ≤ t.size) : (t.extract p t.size).extract 0 n = t.extract p (p + n) := by
  rw [ByteArray.extract_extract]
  congr 1
  omega
theorem ext_rest (t : ByteArray) (p n : Nat) (h : p + n ≤ t.size) : (t.extract p t.size).extract n (t.extract p t.size).size = t.extract (p + n) t.size := by
  rw [ByteArray.extract_extract, ByteArray.size_extract]
  congr 1
  omega
end Go.Proofs.YtelogjpjglohoaaGreatDoor

namespace Go.Proofs.YtelogjpjglohoaaGreatDoor
open Go Go.RowKit
set_option linter.unusedVariables false

/-- Of the old blocks only g may have changed. -/
structure But (g : Nat) (w w' : World) : Prop where
  os : w'.os = w.os
  tape : w'.tape = w.tape
  output : w'.output = w.output
  size : w.heap.size ≤ w'.heap.size
  block : ∀ k, k < w.heap.size → k ≠ g → w'.heap[k]? = w.heap[k]?
theorem But.refl (g : Nat) (w : World) : But g w w := ⟨rfl, rfl, rfl, Nat.le_refl _, fun _ _ _ => rfl⟩
theorem But.trans {g : Nat} {a b c : World} (h : But g a b) (k : But g b c) : But g a c :=
  ⟨k.os.trans h.os, k.tape.trans h.tape, k.output.trans h.output, Nat.le_trans h.size k.size, fun i hi hg => (k.block i (Nat.lt_of_lt_of_le hi h.size) hg).trans (h.block i hi hg)⟩
theorem But.of_below {g : Nat} {w w' : World} (h : Below w.heap.size w w') : But g w w' := ⟨h.os, h.tape, h.output, h.size, fun k hk _ => h.block k hk⟩
theorem But.setCell {g j : Nat} (w : World) (v : Value) : But g w (w.setCell ⟨g, j, none⟩ v) :=
  ⟨rfl, rfl, rfl, by simp [World.setCell], fun k _ hg => Below.heap_setCell w ⟨g, j, none⟩ v k hg⟩
theorem But.below {g B : Nat} {w w' : World} (h : But g w w') (hB : B ≤ g) (hw : B ≤ w.heap.size) : Below B w w' :=
  ⟨h.os, h.tape, h.output, h.size, fun k hk => h.block k (Nat.lt_of_lt_of_le hk hw) (by omega)⟩
theorem Lies.but {w w' : World} {g k : Nat} {t : TypeId} {cs : Array Value} (h : Lies w k t cs) (hb : But g w w') (hk : k ≠ g) : Lies w' k t cs := (hb.block k h.lt hk).trans h
theorem But.cell {g : Nat} {w w' : World} (h : But g w w') {k j : Nat} {v : Value} (hc : w.cell? ⟨k, j, none⟩ = some v) (hk : k ≠ g) : w'.cell? ⟨k, j, none⟩ = some v := by
  have hlt := World.block_lt_of_cell? w _ hc
  exact (World.cell?_of_block (w := w) (h.block k hlt hk)).trans hc
end Go.Proofs.YtelogjpjglohoaaGreatDoor

namespace Go.Proofs.YtelogjpjglohoaaGreatDoor
open Go Go.RowKit
set_option linter.unusedVariables false

theorem cloneC (s : ByteArray) (w : World) (hs : s.size ≤ 1000000) :
    Calls Tryz.prog 25 #[.string s] w fun e w' => e = .returned (.string s) ∧ Below w.heap.size w w' := by
  go_enter Tryz.func25, Tryz.ntmps25
  go_wp2_with fail
  refine (Tryz.stringslite_Clone s _ (by omega)).mono ?_
  rintro e w1 ⟨rfl, hb⟩
  go_wp2_with fail
  go_ret
  exact ⟨rfl, hb⟩

end Go.Proofs.YtelogjpjglohoaaGreatDoor

namespace Go.Proofs.YtelogjpjglohoaaGreatDoor
open Go Go.RowKit
set_option linter.unusedVariables false

theorem But.err {g : Nat} {w w' : World} {k : Nat} {a : Addr} (h : But g w w') (hE : ErrVar w k a) (hk : k ≠ g) : ErrVar w' k a := h.cell hE hk
theorem But.putNew {g Y j : Nat} {w w' : World} (h : But g w w') (hY : w.heap.size ≤ Y) (v : Value) : But g w (w'.setCell ⟨Y, j, none⟩ v) :=
  ⟨h.os, h.tape, h.output, by simpa [World.setCell] using h.size, fun k hk hg => (Below.heap_setCell w' ⟨Y, j, none⟩ v k (by show k ≠ Y; omega)).trans (h.block k hk hg)⟩
theorem But.alloc {g : Nat} {w w' : World} (h : But g w w') (o : Obj) : But g w (w'.alloc o) := h.trans (But.of_below (grown1' w' o))
end Go.Proofs.YtelogjpjglohoaaGreatDoor

namespace Go.Proofs.YtelogjpjglohoaaGreatDoor
open Go Go.RowKit
set_option linter.unusedVariables false

theorem Tryz.info_symb : (Tryz.prog.info? 49).map (fun i => (i.zero, i.size, i.bytes)) = some (some (.agg #[.string ByteArray.empty, .int .i64 0, .int .i64 0, .int .i64 0, .int .i64 0]), 5, 48) := by kernel_rfl
def cellsS (S : Nat → SymD) (n : Nat) : List Value := (List.range (n * 5)).map (symV S)
theorem cellsS_succ (S : Nat → SymD) (n : Nat) : cellsS S (n + 1) = cellsS S n ++ [.string (S n).nm, .int .i64 (S n).kd, .int .i64 (S n).pl, .int .i64 (S n).sz, .int .i64 (S n).fr] := by
  unfold cellsS
  rw [show (n + 1) * 5 = n * 5 + 1 + 1 + 1 + 1 + 1 from by omega, List.range_succ, List.range_succ, List.range_succ, List.range_succ, List.range_succ]
  simp only [List.map_append, List.map_cons, List.map_nil, List.append_assoc, List.cons_append, List.nil_append]
  rw [symV0, symV1, symV2, symV3, symV4]
theorem cellsS_len (S : Nat → SymD) (n : Nat) : (cellsS S n).length = n * 5 := by simp [cellsS]
/-- A list of n symbols of the call's own. -/
def OwnS (w : World) (B : Nat) (p : Option Addr) (n : Nat) (S : Nat → SymD) : Prop := n = 0 ∨ ∃ g, p = some ⟨g, 0, none⟩ ∧ B ≤ g ∧ g < w.heap.size ∧ FRow w g 0 (n * 5) (symV S)
theorem OwnS.syms {w : World} {B : Nat} {p : Option Addr} {n : Nat} {S : Nat → SymD} (h : OwnS w B p n S) : SymsAt w p n S := by
  rcases h with h | ⟨g, h1, h2, h3, h4⟩
  · exact .inl h
  · rw [h1]; exact h4.syms h3
theorem OwnS.low {w : World} {B B' : Nat} {p : Option Addr} {n : Nat} {S : Nat → SymD} (h : OwnS w B p n S) (hb : B' ≤ B) : OwnS w B' p n S := by
  rcases h with h | ⟨g, h1, h2, h3, h4⟩
  · exact .inl h
  · exact .inr ⟨g, h1, Nat.le_trans hb h2, h3, h4⟩
theorem OwnS.putNew {w : World} {B : Nat} {p : Option Addr} {n X j : Nat} {S : Nat → SymD} (h : OwnS w B p n S) (hX : p ≠ some ⟨X, 0, none⟩) (v : Value) : OwnS (w.setCell ⟨X, j, none⟩ v) B p n S := by
  rcases h with h | ⟨g, h1, h2, h3, h4⟩
  · exact .inl h
  · have hne : g ≠ X := fun e => hX (by rw [h1, e])
    exact .inr ⟨g, h1, h2, by simpa [World.setCell] using h3, h4.other hne j v⟩
theorem ownS_of_row {w : World} {B e : Nat} {v : Value} {n : Nat} {S : Nat → SymD} (h : w.ownsRow B e 5 v n (cellsS S n)) : ∃ p c, v = .slice p n c ∧ n ≤ c ∧ OwnS w B p n S := by
  rcases h.2 with ⟨rfl, h0⟩ | ⟨g, cap, cur, rfl, h1, h2, h3, h4, h5, h6⟩
  · exact ⟨none, 0, by rw [h0], by omega, .inl h0⟩
  · refine ⟨_, cap, rfl, h3, .inr ⟨g, rfl, h1, (Array.getElem?_eq_some_iff.1 h2).1, fun i hi => ?_, fun i hi => frozen_of_row w g _ cur e h2⟩⟩
    rw [Nat.zero_add, cell_of_row w g i cur e (0, 0) h2]
    have h7 : (cur.toList.take (n * 5))[i]? = (cellsS S n)[i]? := by rw [h6]
    rw [List.getElem?_take, if_pos hi, Array.getElem?_toList] at h7
    rw [h7]
    simp [cellsS, hi]

theorem ownBlock_ne5 {w : World} {B k : Nat} {e T : TypeId} {v : Value} {n b : Nat} {xs : List Value} {cs : Array Value} (hown : w.ownsRow B e k v n xs) (hb : Lies w b T cs) (hTe : T ≠ e) : v.ownBlock ≠ some b := by
  rcases hown.2 with ⟨rfl, _⟩ | ⟨g, cap, cur, rfl, _, hg, _⟩
  · simp [Value.ownBlock]
  · intro h
    simp only [Value.ownBlock, Option.some.injEq] at h
    subst h
    have hb' := hb
    unfold Lies at hb'
    rw [hg] at hb'
    simp only [Option.some.injEq, Obj.cells.injEq] at hb'
    exact hTe hb'.2.1.symm

theorem row_but {w w' : World} {g B e size n : Nat} {v : Value} {xs : List Value} (h : w.ownsRow B e size v n xs) (hb : But g w w') (hne : v.ownBlock ≠ some g) : w'.ownsRow B e size v n xs := by
  refine ⟨h.1, ?_⟩
  rcases h.2 with hv | ⟨k, cap, cur, h1, h2, h3, h4⟩
  · exact .inl hv
  · refine .inr ⟨k, cap, cur, h1, h2, (hb.block k (Array.getElem?_eq_some_iff.1 h3).1 (fun e => hne ?_)).trans h3, h4⟩
    rw [h1, e]; rfl
theorem row_set {w : World} {b j B e size n : Nat} {v u : Value} {xs : List Value} (h : w.ownsRow B e size v n xs) (hne : v.ownBlock ≠ some b) : (w.setCell ⟨b, j, none⟩ u).ownsRow B e size v n xs := by
  refine ⟨h.1, ?_⟩
  rcases h.2 with hv | ⟨k, cap, cur, h1, h2, h3, h4⟩
  · exact .inl hv
  · refine .inr ⟨k, cap, cur, h1, h2, (Below.heap_setCell w ⟨b, j, none⟩ u k (fun e => hne ?_)).trans h3, h4⟩
    rw [h1, e]; rfl
/-- What the reader takes for an image, from r on. -/
def RS.i1 (t : ByteArray) (r : RS) : RS := r.cx t 2
def RS.i2 (t : ByteArray) (r : RS) : RS := (r.i1 t).cx t 2
def RS.i3 (t : ByteArray) (r : RS) : RS := (r.i2 t).nx t 1
def RS.iN (t : ByteArray) (r : RS) : Nat := (r.i2 t).nb t 1
def RS.iS (t : ByteArray) (r : RS) (m : Nat) : SymD := (RS.at t (r.i3 t) m).sy t
def RS.iE (t : ByteArray) (r : RS) : RS := RS.at t (r.i3 t) (r.iN t)

end Go.Proofs.YtelogjpjglohoaaGreatDoor

namespace Go.Proofs.YtelogjpjglohoaaGreatDoor
open Go Go.RowKit
set_option linter.unusedVariables false

def mkS (s i : Nat) : SymD := ⟨mtS (s + 5 * i), ((s + 5 * i : Nat) : Int) + 1, ((s + 5 * i : Nat) : Int) + 1 + 1, ((s + 5 * i : Nat) : Int) + 1 + 1 + 1, ((s + 5 * i : Nat) : Int) + 1 + 1 + 1 + 1⟩
def mixS (s : Nat) (S : Nat → SymD) (k i : Nat) : SymD := if i < k then mkS s i else S i
theorem mix_step (s k : Nat) (S : Nat → SymD) (i : Nat) : (if i = k * 5 + 4 then Value.int .i64 (mkS s k).fr else if i = k * 5 + 3 then .int .i64 (mkS s k).sz else if i = k * 5 + 2 then .int .i64 (mkS s k).pl else if i = k * 5 + 1 then .int .i64 (mkS s k).kd else if i = k * 5 then .string (mkS s k).nm else symV (mixS s S k) i) = symV (mixS s S (k + 1)) i := by
  have hk : mixS s S (k + 1) k = mkS s k := by unfold mixS; rw [if_pos (Nat.lt_succ_self k)]
  by_cases e4 : i = k * 5 + 4
  · rw [if_pos e4, e4, symV4, hk]
  by_cases e3 : i = k * 5 + 3
  · rw [if_neg e4, if_pos e3, e3, symV3, hk]
  by_cases e2 : i = k * 5 + 2
  · rw [if_neg e4, if_neg e3, if_pos e2, e2, symV2, hk]
  by_cases e1 : i = k * 5 + 1
  · rw [if_neg e4, if_neg e3, if_neg e2, if_pos e1, e1, symV1, hk]
  by_cases e0 : i = k * 5
  · rw [if_neg e4, if_neg e3, if_neg e2, if_neg e1, if_pos e0, e0, symV0, hk]
  · rw [if_neg e4, if_neg e3, if_neg e2, if_neg e1, if_neg e0]
    have hq : i / 5 ≠ k := by omega
    have hmx : mixS s S k (i / 5) = mixS s S (k + 1) (i / 5) := by
      unfold mixS
      by_cases h : i / 5 < k
      · rw [if_pos h, if_pos (by omega)]
      · rw [if_neg h, if_neg (by omega)]
    unfold symV
    rw [hmx]

theorem OwnS.not_at {w : World} {B : Nat} {p : Option Addr} {n : Nat} {S : Nat → SymD} (h : OwnS w B p n S) (k : Nat) (hk : k < B ∨ w.heap.size ≤ k) : qn p n ≠ some ⟨k, 0, none⟩ := by
  unfold qn
  rcases h with h | ⟨g, rfl, h2, h3, _⟩
  · rw [if_pos h]; simp
  · split
    · simp
    · intro e
      have e1 : g = k := by
        have e2 := congrArg (fun o => (o.map Addr.block).getD 0) e
        exact e2
      omega

end Go.Proofs.YtelogjpjglohoaaGreatDoor

namespace Go.Proofs.YtelogjpjglohoaaGreatDoor
open Go Go.RowKit
set_option linter.unusedVariables false
/-- What the walk is told of it. -/
def IsEnts (w : World) (p : Option Addr) (n c : Nat) (S : Nat → EntD) : Prop := EntsAt w p n S ∧ (∀ i, i < n → (S i).wf) ∧ n ≤ c ∧ c ≤ maxLen
end Go.Proofs.YtelogjpjglohoaaGreatDoor
