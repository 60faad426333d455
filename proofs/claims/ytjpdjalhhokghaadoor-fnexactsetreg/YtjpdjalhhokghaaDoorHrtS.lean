/- A register that is laid: contracts, of the model and of the program. -/
import Derived.Test.YtjpdjalhhokghaaDoorHrtC
import Derived.Test.YtjpdjalhhokghaaDoorSpIn
import Derived.Test.YtjpdjalhhokghaaDoorErrC
namespace Go.Proofs.YtjpdjalhhokghaaDoor
open Go.RowKit
set_option linter.unusedVariables false

/-- The registers behind it: register 0 stays. -/
def putR (R : Nat → Int) (r v : Int) (i : Nat) : Int := if (i : Int) = r ∧ 0 < r then v else R i
theorem putR_set (R : Nat → Int) (pc v : Int) (k : Nat) (h : k < 32) (h0 : 0 < k) : (hartC R pc).setIfInBounds k (.int .i64 v) = hartC (putR R k v) pc := by
  rw [hartC_set _ _ _ _ h]
  refine hartC_congr fun i hi => ?_
  unfold putR
  by_cases e : i = k
  · subst e; simp [h0]
  · have e' : ¬ ((i : Int) = (k : Int) ∧ (0 : Int) < (k : Int)) := by omega
    rw [if_neg e, if_neg e']
theorem putR_zero (R : Nat → Int) (v : Int) : putR R 0 v = R := by funext i; simp [putR]

section
variable {P : Program}
/-- A struct and a number that are the results. -/
theorem results_lies2 {fn : Func} {p q : Tmp} {ty : TypeId} (h : fn.results = #[.cell p ty, .tmp q]) (tmps : Array Value) (w : World) (g : Nat) (t : TypeId) (cs : Array Value) (d : TypeDesc)
    (hp : tmps.getD p undef = .pointer (some ⟨g, 0, none⟩)) (hb : Lies w g t cs) (hu : P.underlying ty = some d) (hd : d.isRow = true) (hi : (P.info? ty).map (·.size) = some cs.size) :
    (results fn tmps).run P w = .ok (.tuple #[.agg cs, tmps.getD q undef]) w := by
  have hl := run_loadVar_row (P := P) w g t ty cs (0, 0) d hb hu (by cases d <;> simp_all) hi
  have hp' : tmps[p]?.getD undef = .pointer (some ⟨g, 0, none⟩) := by simpa using hp
  simp [results, h, hp', asAddr, hl]
end

theorem spRg (r : Int) (w : World) (b : Bool) (h : (b = true ∧ 0 ≤ r ∧ r ≤ 31) ∨ (b = false ∧ (r < 0 ∨ 31 < r))) :
    Calls Tryd.prog 85 #[.int .i64 r] w fun e w' => e = .returned (.bool b) ∧ w' = w := by
  go_enter Tryd.func85, Tryd.ntmps85
  go_wp2_with fail
  refine (spIn _ _ _ _ b h).mono ?_
  rintro e w1 ⟨rfl, rfl⟩
  go_wp2
  go_ret
  exact ⟨rfl, rfl⟩

set_option maxRecDepth 100000 in
set_option maxHeartbeats 1000000 in
theorem specSetC (R : Nat → Int) (pc v : Int) (k : Nat) (hk : k < 32) (w : World) :
    Calls Tryd.prog 86 #[.agg (hartC R pc), .int .i64 k, .int .i64 v] w fun e w' => e = .returned (.agg (hartC (putR R k v) pc)) ∧ Below w.heap.size w w' := by
  obtain ⟨hz, hi⟩ := zero_of_info Tryd.zeroH
  have hi2 : (Tryd.prog.info? 57).map (·.size) = some (hartC (putR R k v) pc).size := by rw [hartC_size]; exact hi
  have hA : Lies ((w.alloc (.cells (hartC R pc) 57)).alloc (.cells (hartC (fun _ => 0) 0) 57)) w.heap.size 57 (hartC R pc) := (Lies.new _ _ _).alloc _
  have hB : Lies ((w.alloc (.cells (hartC R pc) 57)).alloc (.cells (hartC (fun _ => 0) 0) 57)) (w.heap.size + 1) 57 (hartC (fun _ => 0) 0) := Lies.newAt _ _ _ (by simp)
  have hbel : Hid (Below w.heap.size w ((w.alloc (.cells (hartC R pc) 57)).alloc (.cells (hartC (fun _ => 0) 0) 57))) := ((Below.refl _ _).alloc (Nat.le_refl _) _).alloc (by simp) _
  by_cases h0 : 0 < k
  · have hset := putR_set R pc v k hk h0
    have hA1 : Lies ((w.alloc (.cells (hartC (putR R k v) pc) 57)).alloc (.cells (hartC (fun _ => 0) 0) 57)) w.heap.size 57 (hartC (putR R k v) pc) := (Lies.new _ _ _).alloc _
    have hB1 : Lies ((w.alloc (.cells (hartC (putR R k v) pc) 57)).alloc (.cells (hartC (fun _ => 0) 0) 57)) (w.heap.size + 1) 57 (hartC (fun _ => 0) 0) := Lies.newAt _ _ _ (by simp)
    have hbel1 : Hid (Below w.heap.size w ((w.alloc (.cells (hartC (putR R k v) pc) 57)).alloc (.cells (hartC (fun _ => 0) 0) 57))) := ((Below.refl _ _).alloc (Nat.le_refl _) _).alloc (by simp) _
    have hc := hA.cell (hartC_at R pc k hk)
    have hf := hA.fro k
    have h0' : (0 : Int) < (k : Int) := by omega
    have hk' : (k : Int) < 32 := by omega
    clear hA hB hbel
    go_enter Tryd.func86, Tryd.ntmps86
    go_wp2_with (first
      | (refine wpList_load_part rfl 57 (.tmp 3) rfl w.heap.size 0 33 rfl _ _ hA1 _ Tryd.underlying57 rfl hi (by simp) (hartC (putR R k v) pc) (by simp) ?_)
      | (refine wpList_store_all rfl 57 (.tmp 6) (.tmp 13) rfl (w.heap.size + 1) (hartC (putR R k v) pc) rfl rfl _ _ hB1 hi2 (by simp) (hartC_one _ pc) ?_)
      | fail)
    refine bodyPost_ret (v := .agg (hartC (putR R k v) pc)) ?_ rfl ⟨rfl, below_setRow hbel1.out (by omega) _⟩
    exact results_lies rfl _ _ _ _ _ _ rfl (hB1.set _) Tryd.underlying57 rfl hi2
  · obtain rfl : k = 0 := by omega
    have hp : putR R ((0 : Nat) : Int) v = R := putR_zero R v
    rw [hp] at hi2 ⊢
    clear hp
    go_enter Tryd.func86, Tryd.ntmps86
    go_wp2_with (first
      | (refine wpList_load_part rfl 57 (.tmp 3) rfl w.heap.size 0 33 rfl _ _ hA _ Tryd.underlying57 rfl hi (by simp) (hartC R pc) (by simp) ?_)
      | (refine wpList_store_all rfl 57 (.tmp 6) (.tmp 13) rfl (w.heap.size + 1) (hartC R pc) rfl rfl _ _ hB hi2 (by simp) (hartC_one _ pc) ?_)
      | fail)
    refine bodyPost_ret (v := .agg (hartC R pc)) ?_ rfl ⟨rfl, below_setRow hbel.out (by omega) _⟩
    exact results_lies rfl _ _ _ _ _ _ rfl (hB.set _) Tryd.underlying57 rfl hi2

set_option maxRecDepth 100000 in
set_option maxHeartbeats 1000000 in
theorem specRegBad (R : Nat → Int) (pc r v : Int) (w : World) (h : ¬ R 0 = 0) :
    Calls Tryd.prog 38 #[.agg (hartC R pc), .int .i64 r, .int .i64 v] w fun e w' => e = .returned (.tuple #[.agg (hartC (fun _ => 0) 0), .int .i64 1]) ∧ Below w.heap.size w w' := by
  obtain ⟨hz, hi⟩ := zero_of_info Tryd.zeroH
  have hi2 : (Tryd.prog.info? 57).map (·.size) = some (hartC (fun _ => 0) 0).size := by rw [hartC_size]; exact hi
  have hA : Lies ((w.alloc (.cells (hartC R pc) 57)).alloc (.cells (hartC (fun _ => 0) 0) 57)) w.heap.size 57 (hartC R pc) := (Lies.new _ _ _).alloc _
  have hB : Lies ((w.alloc (.cells (hartC R pc) 57)).alloc (.cells (hartC (fun _ => 0) 0) 57)) (w.heap.size + 1) 57 (hartC (fun _ => 0) 0) := Lies.newAt _ _ _ (by simp)
  have hbel : Hid (Below w.heap.size w ((w.alloc (.cells (hartC R pc) 57)).alloc (.cells (hartC (fun _ => 0) 0) 57))) := ((Below.refl _ _).alloc (Nat.le_refl _) _).alloc (by simp) _
  have hq : (R 0 == 0) = false := by simpa using h
  go_enter Tryd.func38, Tryd.ntmps38
  go_wp2_with (first
    | (refine wpList_load_part rfl 57 (.tmp 3) rfl w.heap.size 0 33 rfl _ _ hA _ Tryd.underlying57 rfl hi (by simp) (hartC R pc) (by simp) ?_)
    | fail)
  refine (specOkC R pc _).mono ?_
  rintro e w1 ⟨rfl, hb1⟩
  rw [hq]
  have hB1 := hB.below hb1 hB.lt
  have hbel1 : Hid (Below w.heap.size w w1) := hbel.out.trans (hb1.mono (by simp <;> omega))
  clear hA hB hbel hb1 hq
  go_wp2_with (first
    | (refine wpList_store_all rfl 57 (.tmp 6) (.tmp 11) rfl (w.heap.size + 1) (hartC (fun _ => 0) 0) rfl rfl _ _ hB1 hi2 (by simp) (hartC_one _ _) ?_)
    | fail)
  refine bodyPost_ret (results_lies2 rfl _ _ _ _ _ _ rfl (hB1.set _) Tryd.underlying57 rfl hi2) rfl ⟨rfl, below_setRow hbel1.out (by omega) _⟩

set_option maxRecDepth 100000 in
set_option maxHeartbeats 1000000 in
theorem specRegNo (R : Nat → Int) (pc r v : Int) (w : World) (h : R 0 = 0) (hr : r < 0 ∨ 31 < r) :
    Calls Tryd.prog 38 #[.agg (hartC R pc), .int .i64 r, .int .i64 v] w fun e w' => e = .returned (.tuple #[.agg (hartC (fun _ => 0) 0), .int .i64 4]) ∧ Below w.heap.size w w' := by
  obtain ⟨hz, hi⟩ := zero_of_info Tryd.zeroH
  have hi2 : (Tryd.prog.info? 57).map (·.size) = some (hartC (fun _ => 0) 0).size := by rw [hartC_size]; exact hi
  have hA : Lies ((w.alloc (.cells (hartC R pc) 57)).alloc (.cells (hartC (fun _ => 0) 0) 57)) w.heap.size 57 (hartC R pc) := (Lies.new _ _ _).alloc _
  have hB : Lies ((w.alloc (.cells (hartC R pc) 57)).alloc (.cells (hartC (fun _ => 0) 0) 57)) (w.heap.size + 1) 57 (hartC (fun _ => 0) 0) := Lies.newAt _ _ _ (by simp)
  have hbel : Hid (Below w.heap.size w ((w.alloc (.cells (hartC R pc) 57)).alloc (.cells (hartC (fun _ => 0) 0) 57))) := ((Below.refl _ _).alloc (Nat.le_refl _) _).alloc (by simp) _
  have hq : (R 0 == 0) = true := by simpa using h
  have Hr : Hid (r < 0 ∨ 31 < r) := hr
  clear hr h
  go_enter Tryd.func38, Tryd.ntmps38
  go_wp2_with (first
    | (refine wpList_load_part rfl 57 (.tmp 3) rfl w.heap.size 0 33 rfl _ _ hA _ Tryd.underlying57 rfl hi (by simp) (hartC R pc) (by simp) ?_)
    | fail)
  refine (specOkC R pc _).mono ?_
  rintro e w1 ⟨rfl, hb1⟩
  rw [hq]
  have hB1 := hB.below hb1 hB.lt
  have hbel1 : Hid (Below w.heap.size w w1) := hbel.out.trans (hb1.mono (by simp <;> omega))
  clear hA hB hbel hb1 hq
  go_wp2_with fail
  refine (spRg r _ false (.inr ⟨rfl, Hr.out⟩)).mono ?_
  rintro e w2 ⟨rfl, rfl⟩
  go_wp2_with (first
    | (refine wpList_store_all rfl 57 (.tmp 6) (.tmp 15) rfl (w.heap.size + 1) (hartC (fun _ => 0) 0) rfl rfl _ _ hB1 hi2 (by simp) (hartC_one _ _) ?_)
    | fail)
  refine bodyPost_ret (results_lies2 rfl _ _ _ _ _ _ rfl (hB1.set _) Tryd.underlying57 rfl hi2) rfl ⟨rfl, below_setRow hbel1.out (by omega) _⟩

set_option maxRecDepth 100000 in
set_option maxHeartbeats 1000000 in
theorem specRegYes (R : Nat → Int) (pc v : Int) (k : Nat) (hk : k < 32) (w : World) (h : R 0 = 0) :
    Calls Tryd.prog 38 #[.agg (hartC R pc), .int .i64 k, .int .i64 v] w fun e w' => e = .returned (.tuple #[.agg (hartC (putR R k v) pc), .int .i64 0]) ∧ Below w.heap.size w w' := by
  obtain ⟨hz, hi⟩ := zero_of_info Tryd.zeroH
  have hi2 : (Tryd.prog.info? 57).map (·.size) = some (hartC (putR R k v) pc).size := by rw [hartC_size]; exact hi
  have hA : Lies ((w.alloc (.cells (hartC R pc) 57)).alloc (.cells (hartC (fun _ => 0) 0) 57)) w.heap.size 57 (hartC R pc) := (Lies.new _ _ _).alloc _
  have hB : Lies ((w.alloc (.cells (hartC R pc) 57)).alloc (.cells (hartC (fun _ => 0) 0) 57)) (w.heap.size + 1) 57 (hartC (fun _ => 0) 0) := Lies.newAt _ _ _ (by simp)
  have hbel : Hid (Below w.heap.size w ((w.alloc (.cells (hartC R pc) 57)).alloc (.cells (hartC (fun _ => 0) 0) 57))) := ((Below.refl _ _).alloc (Nat.le_refl _) _).alloc (by simp) _
  have hq : (R 0 == 0) = true := by simpa using h
  clear h
  go_enter Tryd.func38, Tryd.ntmps38
  go_wp2_with (first
    | (refine wpList_load_part rfl 57 (.tmp 3) rfl w.heap.size 0 33 rfl _ _ hA _ Tryd.underlying57 rfl hi (by simp) (hartC R pc) (by simp) ?_)
    | fail)
  refine (specOkC R pc _).mono ?_
  rintro e w1 ⟨rfl, hb1⟩
  rw [hq]
  have hA1 := hA.below hb1 hA.lt
  have hB1 := hB.below hb1 hB.lt
  have hbel1 : Hid (Below w.heap.size w w1) := hbel.out.trans (hb1.mono (by simp <;> omega))
  clear hA hB hbel hb1 hq
  go_wp2_with fail
  refine (spRg k _ true (.inl ⟨rfl, by omega, by omega⟩)).mono ?_
  rintro e w2 ⟨rfl, rfl⟩
  go_wp2_with (first
    | (refine wpList_load_part rfl 57 (.tmp 3) rfl w.heap.size 0 33 rfl _ _ hA1 _ Tryd.underlying57 rfl hi (by simp) (hartC R pc) (by simp) ?_)
    | fail)
  refine (specSetC R pc v k hk _).mono ?_
  rintro e w3 ⟨rfl, hb3⟩
  have hB3 := hB1.below hb3 hB1.lt
  have hbel3 : Hid (Below w.heap.size w w3) := hbel1.out.trans (hb3.mono hbel1.out.size)
  clear hA1 hB1 hbel1 hb3
  go_wp2_with (first
    | (refine wpList_store_all rfl 57 (.tmp 6) (.tmp 19) rfl (w.heap.size + 1) (hartC (putR R k v) pc) rfl rfl _ _ hB3 hi2 (by simp) (hartC_one _ _) ?_)
    | fail)
  refine bodyPost_ret (results_lies2 rfl _ _ _ _ _ _ rfl (hB3.set _) Tryd.underlying57 rfl hi2) rfl ⟨rfl, below_setRow hbel3.out (by omega) _⟩
end Go.Proofs.YtjpdjalhhokghaaDoor
