/- May a field be a number? Contracts. The fields of an instruction: contracts. May an instruction stand so? The words. -/
import Derived.Test.YtepanogpojolfaaDoorGXDecode10
import Derived.Test.YtepanogpojolfaaDoorGXDecode11
import Derived.Test.YtepanogpojolfaaDoorGXDecode12
import Derived.Test.YtepanogpojolfaaDoorGXDecode13
import Derived.Test.YtepanogpojolfaaDoorGXDecode14
import Derived.Test.YtepanogpojolfaaDoorGXDecode15
import Derived.Test.YtepanogpojolfaaDoorGXDecode16
import Derived.Test.YtepanogpojolfaaDoorGXDecode17
import Derived.BigRegion
import Derived.Deep.RegionWith
import Derived.Laws.StructEq
namespace Go.Proofs.YtepanogpojolfaaDoor
open Go.RowKit
set_option linter.unusedVariables false

/-- May a form's number be v? -/
def okB (f v : Int) : Bool := takeF f (layF f v) == v
theorem okB_iff (f v : Int) (h1 : 0 ≤ f) (h9 : f ≤ 9) : okB f v = true ↔ okI f v := by
  unfold okB
  rw [beq_iff_eq]
  exact take_lay f v h1 h9
/-- May a register be v? -/
def regB (v : Int) : Bool := decide (0 ≤ v ∧ v ≤ 31)

set_option maxHeartbeats 1000000 in
theorem allowsG (a b c d e1 f g h i j k l m v L R : Int) (hl : Hid (∀ w, Calls Tryd.prog 38 #[.agg #[.int .i64 a, .int .i64 b, .int .i64 c, .int .i64 d, .int .i64 e1, .int .i64 f, .int .i64 g, .int .i64 h, .int .i64 i, .int .i64 j, .int .i64 k, .int .i64 l, .int .i64 m], .int .i64 v] w fun e w' => e = .returned (.int .i64 L) ∧ Below w.heap.size w w'))
    (ht : Hid (∀ w, Calls Tryd.prog 84 #[.agg #[.int .i64 a, .int .i64 b, .int .i64 c, .int .i64 d, .int .i64 e1, .int .i64 f, .int .i64 g, .int .i64 h, .int .i64 i, .int .i64 j, .int .i64 k, .int .i64 l, .int .i64 m], .int .i64 L] w fun e w' => e = .returned (.int .i64 R) ∧ Below w.heap.size w w')) (w : World) :
    Calls Tryd.prog 86 #[.agg #[.int .i64 a, .int .i64 b, .int .i64 c, .int .i64 d, .int .i64 e1, .int .i64 f, .int .i64 g, .int .i64 h, .int .i64 i, .int .i64 j, .int .i64 k, .int .i64 l, .int .i64 m], .int .i64 v] w fun e w' => e = .returned (.bool (R == v)) ∧ Below w.heap.size w w' := by
  go_enter Tryd.func86, Tryd.ntmps86
  go_wp2_with fail
  go_region_with (first | (go_at_call 38; refine (hl.out _).mono ?_; rintro e w1 ⟨rfl, hb1⟩; obtain ⟨hc1, hf1⟩ := bcell hb1; have hz1 : w.heap.size < w1.heap.size := by (have := hb1.size; simp at this; omega)) | (go_at_call 84; refine (ht.out _).mono ?_; rintro e w2 ⟨rfl, hb2⟩))
  all_goals
    clear hl ht
    have HB : Hid (Below w.heap.size w w2) := (((Below.refl _ _).alloc (Nat.le_refl _) _).drew.trans (hb1.mono (by simp))).trans (hb2.mono (by omega))
    clear hc1 hf1 hb1 hb2
    go_wp2
    go_ret
    exact ⟨rfl, HB.out⟩
theorem allows1 (v : Int) (w : World) :
    Calls Tryd.prog 86 #[rule1, .int .i64 v] w fun e w' => e = .returned (.bool (okB 1 v)) ∧ Below w.heap.size w w' :=
  allowsG _ _ _ _ _ _ _ _ _ _ _ _ _ v (layF 1 v) (takeF 1 (layF 1 v)) (fun w => lay1 v w) (fun w => take1 (layF 1 v) w) w
theorem allows2 (v : Int) (w : World) :
    Calls Tryd.prog 86 #[rule2, .int .i64 v] w fun e w' => e = .returned (.bool (okB 2 v)) ∧ Below w.heap.size w w' :=
  allowsG _ _ _ _ _ _ _ _ _ _ _ _ _ v (layF 2 v) (takeF 2 (layF 2 v)) (fun w => lay2 v w) (fun w => take2 (layF 2 v) w) w
theorem allows3 (v : Int) (w : World) :
    Calls Tryd.prog 86 #[rule3, .int .i64 v] w fun e w' => e = .returned (.bool (okB 3 v)) ∧ Below w.heap.size w w' :=
  allowsG _ _ _ _ _ _ _ _ _ _ _ _ _ v (layF 3 v) (takeF 3 (layF 3 v)) (fun w => lay3 v w) (fun w => take3 (layF 3 v) w) w
theorem allows4 (v : Int) (w : World) :
    Calls Tryd.prog 86 #[rule4, .int .i64 v] w fun e w' => e = .returned (.bool (okB 4 v)) ∧ Below w.heap.size w w' :=
  allowsG _ _ _ _ _ _ _ _ _ _ _ _ _ v (layF 4 v) (takeF 4 (layF 4 v)) (fun w => lay4 v w) (fun w => take4 (layF 4 v) w) w
theorem allows5 (v : Int) (w : World) :
    Calls Tryd.prog 86 #[rule5, .int .i64 v] w fun e w' => e = .returned (.bool (okB 5 v)) ∧ Below w.heap.size w w' :=
  allowsG _ _ _ _ _ _ _ _ _ _ _ _ _ v (layF 5 v) (takeF 5 (layF 5 v)) (fun w => lay5 v w) (fun w => take5 (layF 5 v) w) w
theorem allows6 (v : Int) (w : World) :
    Calls Tryd.prog 86 #[rule6, .int .i64 v] w fun e w' => e = .returned (.bool (okB 6 v)) ∧ Below w.heap.size w w' :=
  allowsG _ _ _ _ _ _ _ _ _ _ _ _ _ v (layF 6 v) (takeF 6 (layF 6 v)) (fun w => lay6 v w) (fun w => take6 (layF 6 v) w) w
theorem allows7 (v : Int) (w : World) :
    Calls Tryd.prog 86 #[rule7, .int .i64 v] w fun e w' => e = .returned (.bool (okB 7 v)) ∧ Below w.heap.size w w' :=
  allowsG _ _ _ _ _ _ _ _ _ _ _ _ _ v (layF 7 v) (takeF 7 (layF 7 v)) (fun w => lay7 v w) (fun w => take7 (layF 7 v) w) w
theorem allows8 (v : Int) (w : World) :
    Calls Tryd.prog 86 #[rule8, .int .i64 v] w fun e w' => e = .returned (.bool (okB 8 v)) ∧ Below w.heap.size w w' :=
  allowsG _ _ _ _ _ _ _ _ _ _ _ _ _ v (layF 8 v) (takeF 8 (layF 8 v)) (fun w => lay8 v w) (fun w => take8 (layF 8 v) w) w
theorem fieldI1 (v : Int) (w : World) :
    Calls Tryd.prog 48 #[.int .i64 1, .int .u8 105, .int .i64 v] w fun e w' => e = .returned (.bool (okB 1 v)) ∧ Below w.heap.size w w' := by
  go_enter Tryd.func48, Tryd.ntmps48
  go_wp2_with fail
  refine (rule_1 _).mono ?_
  rintro e w1 ⟨rfl, hb1⟩
  go_wp2_with fail
  refine (allows1 v _).mono ?_
  rintro e w2 ⟨rfl, hb2⟩
  have HB : Hid (Below w.heap.size w w2) := hb1.trans (hb2.mono hb1.size)
  clear hb1 hb2
  go_wp2
  go_ret
  exact ⟨rfl, HB.out⟩
theorem fieldI2 (v : Int) (w : World) :
    Calls Tryd.prog 48 #[.int .i64 2, .int .u8 105, .int .i64 v] w fun e w' => e = .returned (.bool (okB 2 v)) ∧ Below w.heap.size w w' := by
  go_enter Tryd.func48, Tryd.ntmps48
  go_wp2_with fail
  refine (rule_2 _).mono ?_
  rintro e w1 ⟨rfl, hb1⟩
  go_wp2_with fail
  refine (allows2 v _).mono ?_
  rintro e w2 ⟨rfl, hb2⟩
  have HB : Hid (Below w.heap.size w w2) := hb1.trans (hb2.mono hb1.size)
  clear hb1 hb2
  go_wp2
  go_ret
  exact ⟨rfl, HB.out⟩
theorem fieldI3 (v : Int) (w : World) :
    Calls Tryd.prog 48 #[.int .i64 3, .int .u8 105, .int .i64 v] w fun e w' => e = .returned (.bool (okB 3 v)) ∧ Below w.heap.size w w' := by
  go_enter Tryd.func48, Tryd.ntmps48
  go_wp2_with fail
  refine (rule_3 _).mono ?_
  rintro e w1 ⟨rfl, hb1⟩
  go_wp2_with fail
  refine (allows3 v _).mono ?_
  rintro e w2 ⟨rfl, hb2⟩
  have HB : Hid (Below w.heap.size w w2) := hb1.trans (hb2.mono hb1.size)
  clear hb1 hb2
  go_wp2
  go_ret
  exact ⟨rfl, HB.out⟩
theorem fieldI4 (v : Int) (w : World) :
    Calls Tryd.prog 48 #[.int .i64 4, .int .u8 105, .int .i64 v] w fun e w' => e = .returned (.bool (okB 4 v)) ∧ Below w.heap.size w w' := by
  go_enter Tryd.func48, Tryd.ntmps48
  go_wp2_with fail
  refine (rule_4 _).mono ?_
  rintro e w1 ⟨rfl, hb1⟩
  go_wp2_with fail
  refine (allows4 v _).mono ?_
  rintro e w2 ⟨rfl, hb2⟩
  have HB : Hid (Below w.heap.size w w2) := hb1.trans (hb2.mono hb1.size)
  clear hb1 hb2
  go_wp2
  go_ret
  exact ⟨rfl, HB.out⟩
theorem fieldI5 (v : Int) (w : World) :
    Calls Tryd.prog 48 #[.int .i64 5, .int .u8 105, .int .i64 v] w fun e w' => e = .returned (.bool (okB 5 v)) ∧ Below w.heap.size w w' := by
  go_enter Tryd.func48, Tryd.ntmps48
  go_wp2_with fail
  refine (rule_5 _).mono ?_
  rintro e w1 ⟨rfl, hb1⟩
  go_wp2_with fail
  refine (allows5 v _).mono ?_
  rintro e w2 ⟨rfl, hb2⟩
  have HB : Hid (Below w.heap.size w w2) := hb1.trans (hb2.mono hb1.size)
  clear hb1 hb2
  go_wp2
  go_ret
  exact ⟨rfl, HB.out⟩
theorem fieldI6 (v : Int) (w : World) :
    Calls Tryd.prog 48 #[.int .i64 6, .int .u8 105, .int .i64 v] w fun e w' => e = .returned (.bool (okB 6 v)) ∧ Below w.heap.size w w' := by
  go_enter Tryd.func48, Tryd.ntmps48
  go_wp2_with fail
  refine (rule_6 _).mono ?_
  rintro e w1 ⟨rfl, hb1⟩
  go_wp2_with fail
  refine (allows6 v _).mono ?_
  rintro e w2 ⟨rfl, hb2⟩
  have HB : Hid (Below w.heap.size w w2) := hb1.trans (hb2.mono hb1.size)
  clear hb1 hb2
  go_wp2
  go_ret
  exact ⟨rfl, HB.out⟩
theorem fieldI7 (v : Int) (w : World) :
    Calls Tryd.prog 48 #[.int .i64 7, .int .u8 105, .int .i64 v] w fun e w' => e = .returned (.bool (okB 7 v)) ∧ Below w.heap.size w w' := by
  go_enter Tryd.func48, Tryd.ntmps48
  go_wp2_with fail
  refine (rule_7 _).mono ?_
  rintro e w1 ⟨rfl, hb1⟩
  go_wp2_with fail
  refine (allows7 v _).mono ?_
  rintro e w2 ⟨rfl, hb2⟩
  have HB : Hid (Below w.heap.size w w2) := hb1.trans (hb2.mono hb1.size)
  clear hb1 hb2
  go_wp2
  go_ret
  exact ⟨rfl, HB.out⟩
theorem fieldR (f l v : Int) (hl : l ≠ 105) (w : World) :
    Calls Tryd.prog 48 #[.int .i64 f, .int .u8 l, .int .i64 v] w fun e w' => e = .returned (.bool (regB v)) ∧ w' = w := by
  by_cases h0 : 0 ≤ v
  · go_enter Tryd.func48, Tryd.ntmps48
    go_wp2_with (go_at_call 77; refine (low5 _).mono ?_; rintro e w1 ⟨rfl, rfl⟩)
    go_ret
    refine ⟨congrArg (fun x => Ending.returned (.bool x)) ?_, rfl⟩
    show decide (v ≤ 31) = regB v
    unfold regB
    simp [h0]
  · go_enter Tryd.func48, Tryd.ntmps48
    go_wp2
    go_ret
    refine ⟨congrArg (fun x => Ending.returned (.bool x)) ?_, rfl⟩
    show false = regB v
    unfold regB
    simp
    omega
end Go.Proofs.YtepanogpojolfaaDoor

namespace Go.Proofs.YtepanogpojolfaaDoor
open Go.RowKit
set_option linter.unusedVariables false

theorem told1 (w : World) :
    Calls Tryd.prog 46 #[.int .i64 1] w fun e w' => e = .returned (.string { data := #[100, 105] }) ∧ w' = w := by
  go_enter Tryd.func46, Tryd.ntmps46
  go_wp2
  go_ret
  exact ⟨rfl, rfl⟩
theorem told2 (w : World) :
    Calls Tryd.prog 46 #[.int .i64 2] w fun e w' => e = .returned (.string { data := #[100, 105] }) ∧ w' = w := by
  go_enter Tryd.func46, Tryd.ntmps46
  go_wp2
  go_ret
  exact ⟨rfl, rfl⟩
theorem told3 (w : World) :
    Calls Tryd.prog 46 #[.int .i64 3] w fun e w' => e = .returned (.string { data := #[100, 49, 105] }) ∧ w' = w := by
  go_enter Tryd.func46, Tryd.ntmps46
  go_wp2
  go_ret
  exact ⟨rfl, rfl⟩
theorem told4 (w : World) :
    Calls Tryd.prog 46 #[.int .i64 4] w fun e w' => e = .returned (.string { data := #[49, 50, 105] }) ∧ w' = w := by
  go_enter Tryd.func46, Tryd.ntmps46
  go_wp2
  go_ret
  exact ⟨rfl, rfl⟩
theorem told5 (w : World) :
    Calls Tryd.prog 46 #[.int .i64 5] w fun e w' => e = .returned (.string { data := #[50, 49, 105] }) ∧ w' = w := by
  go_enter Tryd.func46, Tryd.ntmps46
  go_wp2
  go_ret
  exact ⟨rfl, rfl⟩
theorem told6 (w : World) :
    Calls Tryd.prog 46 #[.int .i64 6] w fun e w' => e = .returned (.string { data := #[100, 49, 105] }) ∧ w' = w := by
  go_enter Tryd.func46, Tryd.ntmps46
  go_wp2
  go_ret
  exact ⟨rfl, rfl⟩
theorem told7 (w : World) :
    Calls Tryd.prog 46 #[.int .i64 7] w fun e w' => e = .returned (.string { data := #[100, 49, 105] }) ∧ w' = w := by
  go_enter Tryd.func46, Tryd.ntmps46
  go_wp2
  go_ret
  exact ⟨rfl, rfl⟩
theorem told8 (w : World) :
    Calls Tryd.prog 46 #[.int .i64 8] w fun e w' => e = .returned (.string { data := #[100, 49, 50] }) ∧ w' = w := by
  go_enter Tryd.func46, Tryd.ntmps46
  go_wp2
  go_ret
  exact ⟨rfl, rfl⟩
theorem told9 (w : World) :
    Calls Tryd.prog 46 #[.int .i64 9] w fun e w' => e = .returned (.string { data := #[] }) ∧ w' = w := by
  go_enter Tryd.func46, Tryd.ntmps46
  go_wp2
  go_ret
  exact ⟨rfl, rfl⟩
theorem fld100 (b : Nat) (w : World) :
    Calls Tryd.prog 47 #[.pointer (some ⟨b, 0, none⟩), .int .u8 100] w fun e w' => e = .returned (.pointer (some ⟨b, 1, none⟩)) ∧ w' = w := by
  go_enter Tryd.func47, Tryd.ntmps47
  go_wp2
  go_ret
  exact ⟨rfl, rfl⟩
theorem fld49 (b : Nat) (w : World) :
    Calls Tryd.prog 47 #[.pointer (some ⟨b, 0, none⟩), .int .u8 49] w fun e w' => e = .returned (.pointer (some ⟨b, 2, none⟩)) ∧ w' = w := by
  go_enter Tryd.func47, Tryd.ntmps47
  go_wp2
  go_ret
  exact ⟨rfl, rfl⟩
theorem fld50 (b : Nat) (w : World) :
    Calls Tryd.prog 47 #[.pointer (some ⟨b, 0, none⟩), .int .u8 50] w fun e w' => e = .returned (.pointer (some ⟨b, 3, none⟩)) ∧ w' = w := by
  go_enter Tryd.func47, Tryd.ntmps47
  go_wp2
  go_ret
  exact ⟨rfl, rfl⟩
theorem fld105 (b : Nat) (w : World) :
    Calls Tryd.prog 47 #[.pointer (some ⟨b, 0, none⟩), .int .u8 105] w fun e w' => e = .returned (.pointer (some ⟨b, 4, none⟩)) ∧ w' = w := by
  go_enter Tryd.func47, Tryd.ntmps47
  go_wp2
  go_ret
  exact ⟨rfl, rfl⟩
end Go.Proofs.YtepanogpojolfaaDoor

namespace Go.Proofs.YtepanogpojolfaaDoor
open Go.RowKit
set_option linter.unusedVariables false

/-- Is it an instruction of that form? -/
def rightF (f rd r1 r2 im : Int) : Bool :=
  if f = 1 ∨ f = 2 then regB rd && r1 == 0 && r2 == 0 && okB f im
  else if f = 3 ∨ f = 6 ∨ f = 7 then regB rd && regB r1 && r2 == 0 && okB f im
  else if f = 4 ∨ f = 5 then rd == 0 && regB r1 && regB r2 && okB f im
  else if f = 8 then regB rd && regB r1 && regB r2 && im == 0
  else rd == 0 && r1 == 0 && r2 == 0 && im == 0

theorem shapeOKs (op f c g h : Int) (w : World) (hs : shT op = (f, c, g, h)) (h0 : 1 ≤ op) (h1 : op ≤ 64) :
    Calls Tryd.prog 45 #[.int .i64 op] w fun e w' => e = .returned (.tuple #[.agg #[.int .i64 f, .int .i64 c, .int .i64 g, .int .i64 h], .int .i64 0]) ∧ Below w.heap.size w w' := by
  have := shapeOK op w h0 h1
  rw [hs] at this
  exact this
/-- What toldFields answers, what fieldAllows answers of the number. -/
def ToldIs (f : Int) (t : ByteArray) : Prop := ∀ w, Calls Tryd.prog 46 #[.int .i64 f] w fun e w' => e = .returned (.string t) ∧ w' = w
def NumIs (f im : Int) (B : Bool) : Prop := ∀ w, Calls Tryd.prog 48 #[.int .i64 f, .int .u8 105, .int .i64 im] w fun e w' => e = .returned (.bool B) ∧ Below w.heap.size w w'
end Go.Proofs.YtepanogpojolfaaDoor
