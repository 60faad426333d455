/- The model's check of an operation's number: the contract. The model's check of an instruction: words. The program's rule for one instruction. The program's search for the first fault. -/
import Derived.Test.YtelogjpjglohoaaGreatDoorGXTabBase3
import Derived.Test.YtelogjpjglohoaaGreatDoorGXTabBase18
import Derived.Test.YtelogjpjglohoaaGreatDoorGXTabBase19
import Derived.Test.YtelogjpjglohoaaGreatDoorGXTabBase11
import Derived.Deep.QuietTactic
import Derived.BigQuiet
import Derived.Laws.StructEq
namespace Go.Proofs.YtelogjpjglohoaaGreatDoor
open Go.RowKit
set_option linter.unusedVariables false

theorem spOp1 (c : Int) (w : World) (b : Bool) (h : (b = true ∧ 1 ≤ c ∧ c ≤ 64) ∨ (b = false ∧ (c < 1 ∨ 64 < c))) :
    Calls Tryz.prog 117 #[.int .i64 c] w fun e w' => e = .returned (.bool b) ∧ w' = w := by
  go_enter Tryz.func117, Tryz.ntmps117
  go_wp2_with fail
  refine (spIn _ _ _ _ b h).mono ?_
  rintro e w1 ⟨rfl, rfl⟩
  clear h
  go_wp2
  go_ret
  exact ⟨rfl, rfl⟩

end Go.Proofs.YtelogjpjglohoaaGreatDoor

namespace Go.Proofs.YtelogjpjglohoaaGreatDoor
open Go.RowKit
set_option linter.unusedVariables false

/-- Is it an instruction? -/
def rightB (op rd r1 r2 im : Int) : Bool := decide (1 ≤ op ∧ op ≤ 64) && rightF (shT op).1 rd r1 r2 im
def inB (x lo hi : Int) : Bool := decide (lo ≤ x ∧ x ≤ hi)

theorem shT_form (op : Int) (h0 : 1 ≤ op) (h1 : op ≤ 64) : 1 ≤ (shT op).1 ∧ (shT op).1 ≤ 9 := by
  obtain ⟨k, rfl⟩ := Int.eq_ofNat_of_zero_le (show 0 ≤ op by omega)
  have hk : k < 65 := by omega
  have hk0 : 1 ≤ k := by omega
  have key : ∀ j : Nat, j < 65 → 1 ≤ j → 1 ≤ (shT (j : Int)).1 ∧ (shT (j : Int)).1 ≤ 9 := by decide +kernel
  exact key k hk hk0

theorem tm0 (a n : Int) : a.tmod n = 0 ↔ a % n = 0 := by
  rw [← Int.dvd_iff_tmod_eq_zero, ← Int.dvd_iff_emod_eq_zero]

theorem spReg (r : Int) (w : World) : Calls Tryz.prog 118 #[.int .i64 r] w fun e w' => e = .returned (.bool (regB r)) ∧ w' = w := by
  go_enter Tryz.func118, Tryz.ntmps118
  go_wp2_with fail
  refine (spIn _ _ _ _ (regB r) ?_).mono ?_
  · unfold regB
    by_cases h : 0 ≤ r ∧ r ≤ 31
    · exact .inl ⟨decide_eq_true h, h.1, h.2⟩
    · exact .inr ⟨decide_eq_false h, by omega⟩
  rintro e w1 ⟨rfl, rfl⟩
  go_wp2
  go_ret
  exact ⟨rfl, rfl⟩
theorem spInB (x lo hi : Int) (w : World) : Calls Tryz.prog 79 #[.int .i64 x, .int .i64 lo, .int .i64 hi] w fun e w' => e = .returned (.bool (inB x lo hi)) ∧ w' = w := by
  refine spIn _ _ _ _ (inB x lo hi) ?_
  unfold inB
  by_cases h : lo ≤ x ∧ x ≤ hi
  · exact .inl ⟨decide_eq_true h, h.1, h.2⟩
  · exact .inr ⟨decide_eq_false h, by omega⟩
theorem inB_t {x lo hi : Int} (h0 : lo ≤ x) (h1 : x ≤ hi) : inB x lo hi = true := decide_eq_true ⟨h0, h1⟩
theorem inB_f {x lo hi : Int} (h : ¬ (lo ≤ x ∧ x ≤ hi)) : inB x lo hi = false := decide_eq_false h
theorem okB_t {f v : Int} (h1 : 0 ≤ f) (h9 : f ≤ 9) (h : okI f v) : okB f v = true := (okB_iff f v h1 h9).2 h
theorem okB_f {f v : Int} (h1 : 0 ≤ f) (h9 : f ≤ 9) (h : ¬ okI f v) : okB f v = false := by
  cases e : okB f v with
  | false => rfl
  | true => exact absurd ((okB_iff f v h1 h9).1 e) h
theorem regB_bd {r : Int} (h : regB r = true) : 0 ≤ r ∧ r ≤ 31 := of_decide_eq_true h
theorem regB_z : regB 0 = true := rfl
theorem rightF_rd {f rd r1 r2 im : Int} (h : regB rd = false) : rightF f rd r1 r2 im = false := by
  have hz : (rd == 0) = false := by
    by_cases e : rd = 0
    · subst e; exact absurd h (by decide)
    · simpa using e
  unfold rightF
  split
  · simp [h]
  split
  · simp [h]
  split
  · simp [hz]
  split
  · simp [h]
  · simp [hz]
theorem rightF_r1 {f rd r1 r2 im : Int} (h : regB r1 = false) : rightF f rd r1 r2 im = false := by
  have hz : (r1 == 0) = false := by
    by_cases e : r1 = 0
    · subst e; exact absurd h (by decide)
    · simpa using e
  unfold rightF
  split
  · simp [hz]
  split
  · simp [h]
  split
  · simp [h]
  split
  · simp [h]
  · simp [hz]
theorem rightF_r2 {f rd r1 r2 im : Int} (h : regB r2 = false) : rightF f rd r1 r2 im = false := by
  have hz : (r2 == 0) = false := by
    by_cases e : r2 = 0
    · subst e; exact absurd h (by decide)
    · simpa using e
  unfold rightF
  split
  · simp [hz]
  split
  · simp [hz]
  split
  · simp [h]
  split
  · simp [h]
  · simp [hz]
theorem shField0 (a b c d : Int) (w : World) : (Instr.field 129 (.agg #[.int .i64 a, .int .i64 b, .int .i64 c, .int .i64 d]) 0).run Tryz.prog w = .ok (.int .i64 a) w := by
  kernel_rfl
theorem specShs (op f c g h : Int) (w : World) (hs : shT op = (f, c, g, h)) :
    Calls Tryz.prog 90 #[.int .i64 op] w fun e w' => e = .returned (.agg #[.int .i64 f, .int .i64 c, .int .i64 g, .int .i64 h]) ∧ Below w.heap.size w w' := by
  have := specShC op w
  rw [hs] at this
  exact this
end Go.Proofs.YtelogjpjglohoaaGreatDoor

namespace Go.Proofs.YtelogjpjglohoaaGreatDoor
open Go Go.RowKit
set_option linter.unusedVariables false
theorem ru_jalr {R : Nat → Int} {N : Nat} {f at' : Int} {zs : List Int} {wd : Int → Int} {i : Nat} (h : R (i * 5) = 4) : ruI R N f at' zs wd i = if epB R N f (i - 2) = true then 0 else 18 := by unfold ruI; rw [if_pos h]
theorem ru_call {R : Nat → Int} {N : Nat} {f at' : Int} {zs : List Int} {wd : Int → Int} {i : Nat} (h : R (i * 5) = 3) (k : R (i * 5 + 1) = 1) : ruI R N f at' zs wd i = if hasB zs (at' + 4 * i + R (i * 5 + 4)) = true then 0 else 20 := by
  unfold ruI; rw [if_neg (by omega), if_pos h, if_pos k]
theorem ru_jal {R : Nat → Int} {N : Nat} {f at' : Int} {zs : List Int} {wd : Int → Int} {i : Nat} (h : R (i * 5) = 3) (k : ¬ R (i * 5 + 1) = 1) : ruI R N f at' zs wd i = if R (i * 5 + 1) = 0 ∧ goB R N f i (R (i * 5 + 4)) = true then 0 else 19 := by
  unfold ruI; rw [if_neg (by omega), if_pos h, if_neg k]
theorem ru_branch {R : Nat → Int} {N : Nat} {f at' : Int} {zs : List Int} {wd : Int → Int} {i : Nat} (h0 : 5 ≤ R (i * 5)) (h1 : R (i * 5) ≤ 10) : ruI R N f at' zs wd i = if goB R N f i (R (i * 5 + 4)) = true then 0 else 19 := by
  unfold ruI; rw [if_neg (by omega), if_neg (by omega), if_pos ⟨h0, h1⟩]
theorem ru_plain {R : Nat → Int} {N : Nat} {f at' : Int} {zs : List Int} {i : Nat} (h4 : ¬ R (i * 5) = 4) (h3 : ¬ R (i * 5) = 3) (hb : ¬ (5 ≤ R (i * 5) ∧ R (i * 5) ≤ 10)) : ruI R N f at' zs wdN i = plI R N f i := by
  unfold ruI plI; rw [if_neg h4, if_neg h3, if_neg hb]

/-- A branch's form. -/
theorem form_branch (op : Int) (h0 : 1 ≤ op) (h1 : op ≤ 64) : (shT op).1 = 4 ↔ (5 ≤ op ∧ op ≤ 10) := by
  obtain ⟨n, rfl⟩ : ∃ n : Nat, op = n := ⟨op.toNat, by omega⟩
  have key : ∀ n : Nat, n < 65 → 1 ≤ n → ((shT (n : Int)).1 = 4 ↔ (5 ≤ (n : Int) ∧ (n : Int) ≤ 10)) := by decide +kernel
  exact key n (by omega) (by omega)

theorem isCallYes (op rd r1 r2 im : Int) (w : World) (h : op = 3 ∧ rd = 1) :
    Calls Tryz.prog 123 #[.agg #[.int .i64 op, .int .i64 rd, .int .i64 r1, .int .i64 r2, .int .i64 im]] w fun e w' => e = .returned (.bool true) ∧ Below w.heap.size w w' := by
  have := isCallC op rd r1 r2 im w
  rwa [show decide (op = 3 ∧ rd = 1) = true from decide_eq_true h] at this
theorem isCallNo (op rd r1 r2 im : Int) (w : World) (h : ¬ (op = 3 ∧ rd = 1)) :
    Calls Tryz.prog 123 #[.agg #[.int .i64 op, .int .i64 rd, .int .i64 r1, .int .i64 r2, .int .i64 im]] w fun e w' => e = .returned (.bool false) ∧ Below w.heap.size w w' := by
  have := isCallC op rd r1 r2 im w
  rwa [show decide (op = 3 ∧ rd = 1) = false from decide_eq_false h] at this

section
variable {F g q N cl cq : Nat} {pc : Option Addr} {cc : Nat} {at' f : Int} {R P : Nat → Int} {zs : List Int}
set_option maxRecDepth 100000 in
set_option maxHeartbeats 8000000 in
theorem bodyC (i : Nat) (w : World) (h : FnIs w F g q N cl cq pc cc at' f R P zs) (hi : i < N) (hN : N ≤ 64) (hP : ∀ i, i < N → P i = partI R N f i) (f0 : 16 ≤ f) (f1 : f ≤ 128) (a0 : 0 ≤ at') (a1 : at' ≤ 1048575) (hz : zs.length ≤ 1048576) (hs : Small5 R i) :
    Calls Tryz.prog 114 #[.pointer (some ⟨F, 0, none⟩), .int .i64 i] w fun e w' => e = .returned (.int .i64 (ruI R N f at' zs wdN i)) ∧ Below w.heap.size w w' := by
  have c0 := h.c0
  have c1 := h.c1
  obtain ⟨x0, x1, x2, x3, x4⟩ := h.l.five hi
  simp only [Nat.zero_add] at x0 x1 x2 x3 x4
  obtain ⟨op, ho⟩ : ∃ op, R (i * 5) = op := ⟨_, rfl⟩
  obtain ⟨rd, hr⟩ : ∃ rd, R (i * 5 + 1) = rd := ⟨_, rfl⟩
  obtain ⟨r1, hr1⟩ : ∃ r1, R (i * 5 + 2) = r1 := ⟨_, rfl⟩
  obtain ⟨r2, hr2⟩ : ∃ r2, R (i * 5 + 3) = r2 := ⟨_, rfl⟩
  obtain ⟨im, him⟩ : ∃ im, R (i * 5 + 4) = im := ⟨_, rfl⟩
  have o0 := hs.o0
  have o1 := hs.o1
  rw [ho] at x0 o0 o1
  rw [hr] at x1
  rw [hr1] at x2
  rw [hr2] at x3
  rw [him] at x4
  have B1 : Below w.heap.size w (w.alloc (.cells #[.int .i64 op, .int .i64 rd, .int .i64 r1, .int .i64 r2, .int .i64 im] 93)) := (Below.refl _ _).alloc (Nat.le_refl _) _
  have h1 := h.below B1
  have d1 := h1.c1
  have d2 := h1.p i hi
  simp only [Nat.zero_add] at d2
  rw [hP i hi] at d2
  have HB : Hid (Below w.heap.size w (w.alloc (.cells #[.int .i64 op, .int .i64 rd, .int .i64 r1, .int .i64 r2, .int .i64 im] 93))) := B1
  clear B1 hr1 hr2
  by_cases h4 : op = 4
  · subst h4
    rw [ru_jalr ho]
    have q3 := part_ret R N f i
    obtain ⟨v, hv⟩ : ∃ v, partI R N f i = v := ⟨_, rfl⟩
    rw [hv] at q3 d2
    by_cases h3 : v = 3
    · rw [if_pos (q3.1 h3)]
      subst h3
      clear q3 hv ho hr him
      go_enter Tryz.func114, Tryz.ntmps114
      go_wp2_with (go_at_call 77; refine (faultC _ _ _).mono ?_; rintro e w' ⟨rfl, rfl⟩)
      go_ret
      exact ⟨rfl, HB.out⟩
    · rw [if_neg (fun e => h3 (q3.2 e))]
      have h3b : (v == 3) = false := by simpa using h3
      clear q3 hv ho hr him
      go_enter Tryz.func114, Tryz.ntmps114
      go_wp2_with (go_at_call 77; refine (faultC _ _ _).mono ?_; rintro e w' ⟨rfl, rfl⟩)
      go_ret
      exact ⟨congrArg (fun x => Ending.returned (.int .i64 x)) (by first | rfl | simp [h3b]), HB.out⟩
  have h4b : (op == 4) = false := by simpa using h4
  by_cases h3 : op = 3
  · by_cases hrd : rd = 1
    · rw [ru_call (ho.trans h3) (hr.trans hrd)]
      subst h3 hrd
      have hmc := fun w' hh => mayCallC (F := F) (g := g) (q := q) (N := N) (cl := cl) (cq := cq) (pc := pc) (cc := cc) (at' := at') (f := f) (R := R) (P := P) (zs := zs) i w' hh hi hN hz a0 a1 hs
      obtain ⟨b, hb⟩ : ∃ b, hasB zs (at' + 4 * i + R (i * 5 + 4)) = b := ⟨_, rfl⟩
      rw [hb] at hmc ⊢
      clear hb ho hr him
      go_enter Tryz.func114, Tryz.ntmps114
      go_wp2_with fail
      refine (isCallYes _ _ _ _ _ _ (by omega)).mono ?_
      rintro e w2 ⟨rfl, hb2⟩
      have h2 := h1.below hb2
      have HB2 : Hid (Below w.heap.size w w2) := HB.out.trans (hb2.mono (by simp))
      clear hb2 h1 HB d1 d2
      go_wp2_with fail
      refine (hmc _ h2).mono ?_
      rintro e w3 ⟨rfl, hb3⟩
      have HB3 : Hid (Below w.heap.size w w3) := HB2.out.trans (hb3.mono HB2.out.size)
      clear hb3 h2 HB2
      go_wp2_with (go_at_call 77; refine (faultC _ _ _).mono ?_; rintro e w' ⟨rfl, rfl⟩)
      all_goals
        go_ret
        exact ⟨rfl, HB3.out⟩
    · rw [ru_jal (ho.trans h3) (by rw [hr]; exact hrd), hr]
      have hmj := fun w' hh => mayJumpC (F := F) (g := g) (q := q) (N := N) (cl := cl) (cq := cq) (pc := pc) (cc := cc) (at' := at') (f := f) (R := R) (P := P) (zs := zs) i w' hh hi hN hP hs
      obtain ⟨b, hb⟩ : ∃ b, goB R N f i (R (i * 5 + 4)) = b := ⟨_, rfl⟩
      rw [hb] at hmj ⊢
      clear hb ho hr him
      by_cases h0 : rd = 0
      · subst h0 h3
        go_enter Tryz.func114, Tryz.ntmps114
        go_wp2_with fail
        refine (isCallNo _ _ _ _ _ _ (by omega)).mono ?_
        rintro e w2 ⟨rfl, hb2⟩
        have h2 := h1.below hb2
        have HB2 : Hid (Below w.heap.size w w2) := HB.out.trans (hb2.mono (by simp))
        have y0 := (hb2.cell (p := ⟨w.heap.size, 0, none⟩) (by simp)).trans (show _ = some (.int .i64 3) by simp)
        have y1 := (hb2.cell (p := ⟨w.heap.size, 1, none⟩) (by simp)).trans (show _ = some (.int .i64 0) by simp)
        clear hb2 h1 HB d1 d2
        go_wp2_with (first | (go_at_call 77; refine (faultC _ _ _).mono ?_; rintro e w' ⟨rfl, rfl⟩) | (go_at_call 125; refine (hmj _ h2).mono ?_; rintro e w' ⟨rfl, rfl⟩))
        all_goals
          go_ret
          refine ⟨congrArg (fun x => Ending.returned (.int .i64 x)) ?_, HB2.out⟩
          first
            | rfl
            | (cases b <;> simp; done)
            | simp_all
      · have h0b : (rd == 0) = false := by simpa using h0
        subst h3
        rw [if_neg (fun hh => h0 hh.1)]
        go_enter Tryz.func114, Tryz.ntmps114
        go_wp2_with fail
        refine (isCallNo _ _ _ _ _ _ (by omega)).mono ?_
        rintro e w2 ⟨rfl, hb2⟩
        have h2 := h1.below hb2
        have HB2 : Hid (Below w.heap.size w w2) := HB.out.trans (hb2.mono (by simp))
        have y0 := (hb2.cell (p := ⟨w.heap.size, 0, none⟩) (by simp)).trans (show _ = some (.int .i64 3) by simp)
        have y1 := (hb2.cell (p := ⟨w.heap.size, 1, none⟩) (by simp)).trans (show _ = some (.int .i64 rd) by simp)
        clear hb2 h1 HB d1 d2
        go_wp2_with (first | (go_at_call 77; refine (faultC _ _ _).mono ?_; rintro e w' ⟨rfl, rfl⟩) | (go_at_call 125; refine (hmj _ h2).mono ?_; rintro e w' ⟨rfl, rfl⟩))
        go_ret
        exact ⟨congrArg (fun x => Ending.returned (.int .i64 x)) (by first | rfl | simp [h0b]), HB2.out⟩
  have h3b : (op == 3) = false := by simpa using h3
  have hfb := form_branch op o0 o1
  have hsh := fun w' => shapeC op w'
  obtain ⟨⟨f4, fc, fg, fh⟩, hsq⟩ : ∃ s, shT op = s := ⟨_, rfl⟩
  simp only [hsq] at hfb hsh
  simp only [shV] at hsh
  by_cases hbr : 5 ≤ op ∧ op ≤ 10
  · rw [ru_branch (by omega) (by omega)]
    obtain rfl := hfb.2 hbr
    have hmj := fun w' hh => mayJumpC (F := F) (g := g) (q := q) (N := N) (cl := cl) (cq := cq) (pc := pc) (cc := cc) (at' := at') (f := f) (R := R) (P := P) (zs := zs) i w' hh hi hN hP hs
    obtain ⟨b, hb⟩ : ∃ b, goB R N f i (R (i * 5 + 4)) = b := ⟨_, rfl⟩
    rw [hb] at hmj ⊢
    clear hb ho hr him hfb hbr
    go_enter Tryz.func114, Tryz.ntmps114
    go_wp2_with fail
    refine (isCallNo _ _ _ _ _ _ (by omega)).mono ?_
    rintro e w2 ⟨rfl, hb2⟩
    have h2 := h1.below hb2
    have HB2 : Hid (Below w.heap.size w w2) := HB.out.trans (hb2.mono (by simp))
    have y0 := (hb2.cell (p := ⟨w.heap.size, 0, none⟩) (by simp)).trans (show _ = some (.int .i64 op) by simp)
    clear hb2 h1 HB d1 d2
    go_wp2_with fail
    refine (hsh _).mono ?_
    rintro e w3 ⟨rfl, hb3⟩
    have h5 := h2.below hb3
    have HB3 : Hid (Below w.heap.size w w3) := HB2.out.trans (hb3.mono HB2.out.size)
    clear hb3 h2 HB2 hsh
    have hfd := shField0 4 fc fg fh w3
    go_wp2_with (first | (go_at_call 77; refine (faultC _ _ _).mono ?_; rintro e w' ⟨rfl, rfl⟩) | (go_at_call 125; refine (hmj _ h5).mono ?_; rintro e w' ⟨rfl, rfl⟩))
    all_goals
      go_ret
      exact ⟨rfl, HB3.out⟩
  · rw [ru_plain (by rw [ho]; exact h4) (by rw [ho]; exact h3) (by rw [ho]; exact hbr)]
    have hf4 : ¬ f4 = 4 := fun e => hbr (hfb.1 e)
    have hf4b : (f4 == 4) = false := by simpa using hf4
    have hpl := fun w' hh => plainC (F := F) (g := g) (q := q) (N := N) (cl := cl) (cq := cq) (pc := pc) (cc := cc) (at' := at') (f := f) (R := R) (P := P) (zs := zs) i w' hh hi hN hP f0 f1 hs
    obtain ⟨res, hres⟩ : ∃ res, plI R N f i = res := ⟨_, rfl⟩
    rw [hres] at hpl ⊢
    clear hres ho hr him hfb hbr
    go_enter Tryz.func114, Tryz.ntmps114
    go_wp2_with fail
    refine (isCallNo _ _ _ _ _ _ (by omega)).mono ?_
    rintro e w2 ⟨rfl, hb2⟩
    have h2 := h1.below hb2
    have HB2 : Hid (Below w.heap.size w w2) := HB.out.trans (hb2.mono (by simp))
    have y0 := (hb2.cell (p := ⟨w.heap.size, 0, none⟩) (by simp)).trans (show _ = some (.int .i64 op) by simp)
    clear hb2 h1 HB d1 d2
    go_wp2_with fail
    refine (hsh _).mono ?_
    rintro e w3 ⟨rfl, hb3⟩
    have h5 := h2.below hb3
    have HB3 : Hid (Below w.heap.size w w3) := HB2.out.trans (hb3.mono HB2.out.size)
    clear hb3 h2 HB2 hsh
    have hfd := shField0 f4 fc fg fh w3
    go_wp2_with (go_at_call 127; refine (hpl _ h5).mono ?_; rintro e w4 ⟨rfl, hb4⟩)
    go_ret
    exact ⟨rfl, HB3.out.trans (hb4.mono HB3.out.size)⟩
end
end Go.Proofs.YtelogjpjglohoaaGreatDoor

namespace Go.Proofs.YtelogjpjglohoaaGreatDoor
open Go Go.RowKit
set_option linter.unusedVariables false
/-- Two instructions are alike. -/
def sm5 (a0 a1 a2 a3 a4 b0 b1 b2 b3 b4 : Int) : Bool := a0 == b0 && (a1 == b1 && (a2 == b2 && (a3 == b3 && a4 == b4)))
theorem sm5_iff {a0 a1 a2 a3 a4 b0 b1 b2 b3 b4 : Int} : sm5 a0 a1 a2 a3 a4 b0 b1 b2 b3 b4 = true ↔ a0 = b0 ∧ a1 = b1 ∧ a2 = b2 ∧ a3 = b3 ∧ a4 = b4 := by simp [sm5]
theorem fieldsIns : Tryz.prog.underlying 93 = some (.struct (Tryz.prog.fieldsOf 93)) := by kernel_rfl
theorem heldIns : Tryz.prog.stoodInHeld 93 = false := by kernel_rfl
theorem guardIns : Tryz.prog.eqGuardType Tryz.prog.depth 93 = false := by kernel_rfl
theorem listIns : (Tryz.prog.fieldsOf 93).toList.map (fun f => (f.name, f.type, f.offset)) = [("Op", 3, 0), ("Rd", 3, 1), ("Rs1", 3, 2), ("Rs2", 3, 3), ("Imm", 3, 4)] := by kernel_rfl
theorem eqlIns (a0 a1 a2 a3 a4 b0 b1 b2 b3 b4 : Int) (w : World) : (Op.equalIn 10000 93 (.agg #[.int .i64 a0, .int .i64 a1, .int .i64 a2, .int .i64 a3, .int .i64 a4]) (.agg #[.int .i64 b0, .int .i64 b1, .int .i64 b2, .int .i64 b3, .int .i64 b4])).run Tryz.prog w = .ok (sm5 a0 a1 a2 a3 a4 b0 b1 b2 b3 b4) w := by
  rw [run_equalIn_struct w 9999 _ _ _ fieldsIns heldIns]
  have hl := listIns
  generalize (Tryz.prog.fieldsOf 93).toList = fs at hl ⊢
  have hlen : fs.length = 5 := by simpa using congrArg List.length hl
  match fs, hlen with
  | [f0, f1, f2, f3, f4], _ =>
    simp at hl
    obtain ⟨⟨n0, t0, o0⟩, ⟨n1, t1, o1⟩, ⟨n2, t2, o2⟩, ⟨n3, t3, o3⟩, ⟨n4, t4, o4⟩⟩ := hl
    have hp : ∀ (cs : Array Value) (o : Nat) (x : Int), cs[o]? = some (.int .i64 x) → (part 3 cs o).run Tryz.prog w = .ok (.int .i64 x) w := fun cs o x h => by
      simp [part, isAgg, run_underlying Tryz.underlying3, h]
    have he : ∀ x y : Int, (Op.equalIn 9999 3 (.int .i64 x) (.int .i64 y)).run Tryz.prog w = .ok (x == y) w := fun x y => run_equalIn_int w 9998 _ _ _ x y Tryz.underlying3
    unfold sm5
    simp only [Op.eqFields, n0, t0, o0, n1, t1, o1, n2, t2, o2, n3, t3, o3, n4, t4, o4]
    have pa0 := hp #[.int .i64 a0, .int .i64 a1, .int .i64 a2, .int .i64 a3, .int .i64 a4] 0 a0 rfl
    have pa1 := hp #[.int .i64 a0, .int .i64 a1, .int .i64 a2, .int .i64 a3, .int .i64 a4] 1 a1 rfl
    have pa2 := hp #[.int .i64 a0, .int .i64 a1, .int .i64 a2, .int .i64 a3, .int .i64 a4] 2 a2 rfl
    have pa3 := hp #[.int .i64 a0, .int .i64 a1, .int .i64 a2, .int .i64 a3, .int .i64 a4] 3 a3 rfl
    have pa4 := hp #[.int .i64 a0, .int .i64 a1, .int .i64 a2, .int .i64 a3, .int .i64 a4] 4 a4 rfl
    have pb0 := hp #[.int .i64 b0, .int .i64 b1, .int .i64 b2, .int .i64 b3, .int .i64 b4] 0 b0 rfl
    have pb1 := hp #[.int .i64 b0, .int .i64 b1, .int .i64 b2, .int .i64 b3, .int .i64 b4] 1 b1 rfl
    have pb2 := hp #[.int .i64 b0, .int .i64 b1, .int .i64 b2, .int .i64 b3, .int .i64 b4] 2 b2 rfl
    have pb3 := hp #[.int .i64 b0, .int .i64 b1, .int .i64 b2, .int .i64 b3, .int .i64 b4] 3 b3 rfl
    have pb4 := hp #[.int .i64 b0, .int .i64 b1, .int .i64 b2, .int .i64 b3, .int .i64 b4] 4 b4 rfl
    simp [pa0, pa1, pa2, pa3, pa4, pb0, pb1, pb2, pb3, pb4, he]
    cases h0 : (a0 == b0) <;> simp_all
    cases h1 : (a1 == b1) <;> simp_all
    cases h2 : (a2 == b2) <;> simp_all
    cases h3 : (a3 == b3) <;> simp_all
    cases h4 : (a4 == b4) <;> simp_all
/-- Instruction k is the prologue's. -/
def Eq5 (R S : Nat → Int) (k : Nat) : Prop := ∀ j, j < 5 → R (k * 5 + j) = S (k * 5 + j)
/-- The last instruction may be one. -/
def EndOK (R : Nat → Int) (N : Nat) : Prop := R ((N - 1) * 5) = 4 ∨ (R ((N - 1) * 5) = 3 ∧ R ((N - 1) * 5 + 1) = 0)
/-- The first fault of a function's instructions. -/
inductive LintIs (R : Nat → Int) (N : Nat) (f at' : Int) (zs : List Int) : Int → Int → Prop
  | head (k : Nat) (hk : k < 2) (h : ∀ j, j < k → Eq5 R (proR f) j) (hn : ¬ Eq5 R (proR f) k) : LintIs R N f at' zs k 17
  | last (h : ∀ j, j < 2 → Eq5 R (proR f) j) (hn : ¬ EndOK R N) : LintIs R N f at' zs ((N - 1 : Nat) : Int) 22
  | rule (k : Nat) (h : ∀ j, j < 2 → Eq5 R (proR f) j) (he : EndOK R N) (h2 : 2 ≤ k) (hk : k < N) (hb : ∀ j, 2 ≤ j → j < k → ruI R N f at' zs wdN j = 0) (hn : ruI R N f at' zs wdN k ≠ 0) : LintIs R N f at' zs k (ruI R N f at' zs wdN k)
  | none (h : ∀ j, j < 2 → Eq5 R (proR f) j) (he : EndOK R N) (hb : ∀ j, 2 ≤ j → j < N → ruI R N f at' zs wdN j = 0) : LintIs R N f at' zs 0 0

theorem first_of (p : Nat → Prop) (n : Nat) : (∀ j, j < n → p j) ∨ ∃ k, k < n ∧ (∀ j, j < k → p j) ∧ ¬ p k := by
  induction n with
  | zero => exact .inl (fun j hj => absurd hj (Nat.not_lt_zero _))
  | succ n ih =>
    rcases ih with h | ⟨k, h1, h2, h3⟩
    · by_cases e : p n
      · exact .inl (fun j hj => by
          rcases Nat.lt_succ_iff_lt_or_eq.1 hj with h' | rfl
          · exact h j h'
          · exact e)
      · exact .inr ⟨n, Nat.lt_succ_self _, h, e⟩
    · exact .inr ⟨k, Nat.lt_succ_of_lt h1, h2, h3⟩
theorem lint_ex (R : Nat → Int) (N : Nat) (f at' : Int) (zs : List Int) : ∃ x y, LintIs R N f at' zs x y := by
  rcases first_of (Eq5 R (proR f)) 2 with h | ⟨k, h1, h2, h3⟩
  · by_cases he : EndOK R N
    · rcases first_of (fun j => 2 ≤ j → ruI R N f at' zs wdN j = 0) N with hb | ⟨k, k1, k2, k3⟩
      · exact ⟨_, _, .none h he (fun j h2 hj => hb j hj h2)⟩
      · have h2 : 2 ≤ k := by
          by_cases e : 2 ≤ k
          · exact e
          · exact absurd (fun hh => absurd hh e) k3
        exact ⟨_, _, .rule k h he h2 k1 (fun j h2 hj => k2 j hj h2) (fun e => k3 (fun _ => e))⟩
    · exact ⟨_, _, .last h he⟩
  · exact ⟨_, _, .head k h1 h2 h3⟩

section
variable {F g q N cl cq : Nat} {pc : Option Addr} {cc : Nat} {at' f : Int} {R P : Nat → Int} {zs : List Int}
set_option maxRecDepth 100000 in
set_option maxHeartbeats 8000000 in
theorem firstHead (k : Nat) (w : World) (h : FnIs w F g q N cl cq pc cc at' f R P zs) (hN : N ≤ 64) (h5 : 5 ≤ N) (hf : frB f = true) (hk : k < 2) (hok : ∀ j, j < k → Eq5 R (proR f) j) (hn : ¬ Eq5 R (proR f) k) :
    Calls Tryz.prog 106 #[.pointer (some ⟨F, 0, none⟩)] w fun e w' => e = .returned (.tuple #[.int .i64 k, .int .i64 17]) ∧ Below w.heap.size w w' := by
  have c0 := h.c0
  have c3 := h.c3
  go_enter Tryz.func106, Tryz.ntmps106
  go_wp2_with (go_at_call 112; refine (proImpl f _ hf).mono ?_; rintro e w1 ⟨G, rfl, hb, hg, hlt, hfl⟩)
  go_loopw [21] (fun i wr => ∃ m : Nat, m ≤ k ∧ i = .int .i64 m ∧ Below w.heap.size w wr ∧ Below w1.heap.size w1 wr) (fun i _ => 2 - (intOf i).toNat)
  case atStart => exact ⟨0, Nat.zero_le _, rfl, hb, Below.refl _ _⟩
  case round =>
    obtain ⟨m, hm, rfl, hB, hB1⟩ := hrel
    have hlt' : G < wr.heap.size := Nat.lt_of_lt_of_le hlt hB1.size
    have hfl' := hfl.below hB1 hlt
    obtain ⟨y0, y1, y2, y3, y4⟩ := hfl'.rd.five (k := m) (by omega)
    have hfive := hok m
    obtain ⟨b0, e0⟩ : ∃ b, proR f (m * 5) = b := ⟨_, rfl⟩
    obtain ⟨b1, e1⟩ : ∃ b, proR f (m * 5 + 1) = b := ⟨_, rfl⟩
    obtain ⟨b2, e2⟩ : ∃ b, proR f (m * 5 + 2) = b := ⟨_, rfl⟩
    obtain ⟨b3, e3⟩ : ∃ b, proR f (m * 5 + 3) = b := ⟨_, rfl⟩
    obtain ⟨b4, e4⟩ : ∃ b, proR f (m * 5 + 4) = b := ⟨_, rfl⟩
    simp only [Nat.zero_add] at y0 y1 y2 y3 y4
    rw [e0] at y0
    rw [e1] at y1
    rw [e2] at y2
    rw [e3] at y3
    rw [e4] at y4
    have B1 : Below wr.heap.size wr (wr.alloc (.cells #[.int .i64 b0, .int .i64 b1, .int .i64 b2, .int .i64 b3, .int .i64 b4] 93)) := (Below.refl _ _).alloc (Nat.le_refl _) _
    have h1 := (h.below hB).below B1
    have d0 := h1.c0
    obtain ⟨x0, x1, x2, x3, x4⟩ := h1.l.five (k := m) (by omega)
    simp only [Nat.zero_add] at x0 x1 x2 x3 x4
    clear hfl hfl' h1
    have hmN : m < N := by omega
    have hgu := guardIns
    have hsm : sm5 (R (m * 5)) (R (m * 5 + 1)) (R (m * 5 + 2)) (R (m * 5 + 3)) (R (m * 5 + 4)) b0 b1 b2 b3 b4 = true ↔ Eq5 R (proR f) m := by
      rw [sm5_iff, ← e0, ← e1, ← e2, ← e3, ← e4]
      unfold Eq5
      constructor
      · rintro ⟨a0, a1, a2, a3, a4⟩ j hj
        match j, hj with
        | 0, _ => exact a0
        | 1, _ => exact a1
        | 2, _ => exact a2
        | 3, _ => exact a3
        | 4, _ => exact a4
      · intro a
        exact ⟨a 0 (by omega), a 1 (by omega), a 2 (by omega), a 3 (by omega), a 4 (by omega)⟩
    have heq := fun w => eqlIns (R (m * 5)) (R (m * 5 + 1)) (R (m * 5 + 2)) (R (m * 5 + 3)) (R (m * 5 + 4)) b0 b1 b2 b3 b4 w
    by_cases hmk : m = k
    · subst hmk
      have hs : sm5 (R (m * 5)) (R (m * 5 + 1)) (R (m * 5 + 2)) (R (m * 5 + 3)) (R (m * 5 + 4)) b0 b1 b2 b3 b4 = false := by
        cases e : sm5 (R (m * 5)) (R (m * 5 + 1)) (R (m * 5 + 2)) (R (m * 5 + 3)) (R (m * 5 + 4)) b0 b1 b2 b3 b4
        · rfl
        · exact absurd (hsm.1 e) hn
      rw [hs] at heq
      clear hsm hfive hs e0 e1 e2 e3 e4
      go_wp2
      go_region
      go_wp2
      go_ret2
      exact ⟨rfl, hB.trans ((B1.drew).mono hB.size)⟩
    · have hs := hsm.2 (hfive (by omega))
      rw [hs] at heq
      clear hsm hfive hs e0 e1 e2 e3 e4
      go_wp2
      go_region
      go_wp2
      go_round
      case rel => exact ⟨m + 1, by omega, by go_num, hB.trans ((B1.drew).mono hB.size), hB1.trans ((B1.drew).mono hB1.size)⟩
      case measure => simp [intOf]; omega
set_option maxRecDepth 100000 in
set_option maxHeartbeats 8000000 in
theorem firstTail (w : World) (h : FnIs w F g q N cl cq pc cc at' f R P zs) (hN : N ≤ 64) (h5 : 5 ≤ N) (hf : frB f = true) (f0 : 16 ≤ f) (f1 : f ≤ 128) (hok : ∀ j, j < 2 → Eq5 R (proR f) j) (hP : ∀ i, i < N → P i = partI R N f i) (hz : zs.length ≤ 1048576) (a0 : 0 ≤ at') (a1 : at' ≤ 1048575) (hs : ∀ i, i < N → Small5 R i) (x y : Int) (hl : LintIs R N f at' zs x y) :
    Calls Tryz.prog 106 #[.pointer (some ⟨F, 0, none⟩)] w fun e w' => e = .returned (.tuple #[.int .i64 x, .int .i64 y]) ∧ Below w.heap.size w w' := by
  have c0 := h.c0
  have c3 := h.c3
  go_enter Tryz.func106, Tryz.ntmps106
  go_wp2_with (go_at_call 112; refine (proImpl f _ hf).mono ?_; rintro e w1 ⟨G, rfl, hb, hg, hlt, hfl⟩)
  go_loopw [21] (fun i wr => ∃ m : Nat, m ≤ 2 ∧ i = .int .i64 m ∧ Below w.heap.size w wr ∧ Below w1.heap.size w1 wr) (fun i _ => 2 - (intOf i).toNat)
  case atStart => exact ⟨0, Nat.zero_le _, rfl, hb, Below.refl _ _⟩
  case round =>
    obtain ⟨m, hm, rfl, hB, hB1⟩ := hrel
    have hlt' : G < wr.heap.size := Nat.lt_of_lt_of_le hlt hB1.size
    have hfl' := hfl.below hB1 hlt
    by_cases hm2 : m < 2
    · obtain ⟨y0, y1, y2, y3, y4⟩ := hfl'.rd.five (k := m) (by omega)
      have hfive := hok m hm2
      obtain ⟨b0, e0⟩ : ∃ b, proR f (m * 5) = b := ⟨_, rfl⟩
      obtain ⟨b1, e1⟩ : ∃ b, proR f (m * 5 + 1) = b := ⟨_, rfl⟩
      obtain ⟨b2, e2⟩ : ∃ b, proR f (m * 5 + 2) = b := ⟨_, rfl⟩
      obtain ⟨b3, e3⟩ : ∃ b, proR f (m * 5 + 3) = b := ⟨_, rfl⟩
      obtain ⟨b4, e4⟩ : ∃ b, proR f (m * 5 + 4) = b := ⟨_, rfl⟩
      simp only [Nat.zero_add] at y0 y1 y2 y3 y4
      rw [e0] at y0
      rw [e1] at y1
      rw [e2] at y2
      rw [e3] at y3
      rw [e4] at y4
      have B1 : Below wr.heap.size wr (wr.alloc (.cells #[.int .i64 b0, .int .i64 b1, .int .i64 b2, .int .i64 b3, .int .i64 b4] 93)) := (Below.refl _ _).alloc (Nat.le_refl _) _
      have h1 := (h.below hB).below B1
      have d0 := h1.c0
      obtain ⟨x0, x1, x2, x3, x4⟩ := h1.l.five (k := m) (by omega)
      simp only [Nat.zero_add] at x0 x1 x2 x3 x4
      clear hfl hfl' h1
      have hmN : m < N := by omega
      have hgu := guardIns
      have hsm : sm5 (R (m * 5)) (R (m * 5 + 1)) (R (m * 5 + 2)) (R (m * 5 + 3)) (R (m * 5 + 4)) b0 b1 b2 b3 b4 = true := by
        rw [sm5_iff, ← e0, ← e1, ← e2, ← e3, ← e4]
        exact ⟨hfive 0 (by omega), hfive 1 (by omega), hfive 2 (by omega), hfive 3 (by omega), hfive 4 (by omega)⟩
      have heq := fun w => eqlIns (R (m * 5)) (R (m * 5 + 1)) (R (m * 5 + 2)) (R (m * 5 + 3)) (R (m * 5 + 4)) b0 b1 b2 b3 b4 w
      rw [hsm] at heq
      clear hsm hfive e0 e1 e2 e3 e4 hl hok hP hs
      go_wp2
      go_region
      go_wp2
      go_round
      case rel => exact ⟨m + 1, by omega, by go_num, hB.trans ((B1.drew).mono hB.size), hB1.trans ((B1.drew).mono hB1.size)⟩
      case measure => simp [intOf]; omega
    · obtain rfl : m = 2 := by omega
      have h1 := h.below hB
      have d0 := h1.c0
      obtain ⟨x0, x1, x2, x3, x4⟩ := h1.l.five (k := N - 1) (by omega)
      obtain ⟨l, hl1⟩ : ∃ l, N - 1 = l := ⟨_, rfl⟩
      have hNl : N = l + 1 := by omega
      rw [hl1] at x0 x1 x2 x3 x4
      simp only [Nat.zero_add] at x0 x1 x2 x3 x4
      subst hNl
      clear hl1
      have hlast : EndOK R (l + 1) ↔ R (l * 5) = 4 ∨ (R (l * 5) = 3 ∧ R (l * 5 + 1) = 0) := Iff.rfl
      go_wp2_with fail
      refine (mayEndC _ _ _ _ _ _).mono ?_
      rintro e w2 ⟨rfl, hb2⟩
      have h2 := h1.below hb2
      have HB2 : Hid (Below w.heap.size w w2) := hB.trans (hb2.mono hB.size)
      clear hb2 h1 hB hB1 hb hfl hfl' d0 x0 x1 x2 x3 x4 c0 c3
      by_cases he : EndOK R (l + 1)
      · have hd : decide (R (l * 5) = 4 ∨ (R (l * 5) = 3 ∧ R (l * 5 + 1) = 0)) = true := by rw [decide_eq_true_eq]; exact hlast.1 he
        rw [hd]
        have hbd := fun i w' (hh : FnIs w' F g q (l + 1) cl cq pc cc at' f R P zs) (hi : i < l + 1) => bodyC (F := F) (g := g) (q := q) (N := l + 1) (cl := cl) (cq := cq) (pc := pc) (cc := cc) (at' := at') (f := f) (R := R) (P := P) (zs := zs) i w' hh hi hN hP f0 f1 a0 a1 hz (hs i hi)
        clear hP hs hlast hd
        go_wp2_with fail
        go_loopw [9] (fun i wr => ∃ m : Nat, 2 ≤ m ∧ m ≤ l + 1 ∧ i = .int .i64 m ∧ (∀ j, 2 ≤ j → j < m → ruI R (l + 1) f at' zs wdN j = 0) ∧ Below w.heap.size w wr) (fun i _ => (l + 1) - (intOf i).toNat)
        case atStart => exact ⟨2, by omega, by omega, rfl, fun j h1 h2 => by omega, HB2.out⟩
        case round =>
          obtain ⟨m, hm2, hml, rfl, hru, hB⟩ := hrel
          have h3 := h.below hB
          have d0 := h3.c0
          by_cases hlt2 : m < l + 1
          · obtain ⟨r, hr⟩ : ∃ r, ruI R (l + 1) f at' zs wdN m = r := ⟨_, rfl⟩
            have hbm := hbd m _ h3 hlt2
            rw [hr] at hbm
            by_cases hr0 : r = 0
            · subst hr0
              go_wp2_with fail
              refine hbm.mono ?_
              rintro e w3 ⟨rfl, hb3⟩
              have HB3 : Below w.heap.size w w3 := hB.trans (hb3.mono hB.size)
              clear hb3 hB h3 d0 hbm hbd h
              go_wp2_with fail
              go_round
              case rel => exact ⟨m + 1, by omega, by omega, by go_num, fun j h1 h2 => by
                rcases Nat.lt_succ_iff_lt_or_eq.1 h2 with h' | rfl
                · exact hru j h1 h'
                · exact hr, HB3⟩
              case measure => simp [intOf]; omega
            · obtain ⟨rfl, rfl⟩ : x = ((m : Nat) : Int) ∧ y = r := by
                cases hl with
                | head k hk a b => exact absurd (hok k hk) b
                | last a b => exact absurd he b
                | rule k a b h2 hk hb hn =>
                  by_cases hkm : k < m
                  · exact absurd (hru k h2 hkm) hn
                  · by_cases hmk : m < k
                    · exact absurd (hr.symm.trans (hb m hm2 hmk)) hr0
                    · obtain rfl : k = m := by omega
                      exact ⟨rfl, hr⟩
                | none a b hb => exact absurd (hr.symm.trans (hb m hm2 hlt2)) hr0
              have hr0b : (y == 0) = false := by simpa using hr0
              go_wp2_with fail
              refine hbm.mono ?_
              rintro e w3 ⟨rfl, hb3⟩
              have HB3 : Below w.heap.size w w3 := hB.trans (hb3.mono hB.size)
              clear hb3 hB h3 d0 hbm hbd h
              go_wp2_with fail
              go_ret2
              exact ⟨rfl, HB3⟩
          · obtain rfl : m = l + 1 := by omega
            obtain ⟨rfl, rfl⟩ : x = 0 ∧ y = 0 := by
              cases hl with
              | head k hk a b => exact absurd (hok k hk) b
              | last a b => exact absurd he b
              | rule k a b h2 hk hb hn => exact absurd (hru k h2 hk) hn
              | none a b => exact ⟨rfl, rfl⟩
            go_wp2_with fail
            go_ret2
            exact ⟨rfl, hB⟩
      · have hd : decide (R (l * 5) = 4 ∨ (R (l * 5) = 3 ∧ R (l * 5 + 1) = 0)) = false := by rw [decide_eq_false_iff_not]; exact fun h => he (hlast.2 h)
        rw [hd]
        obtain ⟨rfl, rfl⟩ : x = ((l : Nat) : Int) ∧ y = 22 := by
          cases hl with
          | head k hk a b => exact absurd (hok k hk) b
          | last a b => exact ⟨rfl, rfl⟩
          | rule k a b => exact absurd b he
          | none a b => exact absurd b he
        go_wp2_with fail
        go_ret2
        exact ⟨rfl, HB2.out⟩
/-- What firstFault answers. -/
theorem firstC (w : World) (h : FnIs w F g q N cl cq pc cc at' f R P zs) (hN : N ≤ 64) (h5 : 5 ≤ N) (hf : frB f = true) (f0 : 16 ≤ f) (f1 : f ≤ 128) (hP : ∀ i, i < N → P i = partI R N f i) (hz : zs.length ≤ 1048576) (a0 : 0 ≤ at') (a1 : at' ≤ 1048575) (hs : ∀ i, i < N → Small5 R i) (x y : Int) (hl : LintIs R N f at' zs x y) :
    Calls Tryz.prog 106 #[.pointer (some ⟨F, 0, none⟩)] w fun e w' => e = .returned (.tuple #[.int .i64 x, .int .i64 y]) ∧ Below w.heap.size w w' := by
  by_cases hok : ∀ j, j < 2 → Eq5 R (proR f) j
  · exact firstTail w h hN h5 hf f0 f1 hok hP hz a0 a1 hs x y hl
  · cases hl with
    | head k hk a b => exact firstHead k w h hN h5 hf hk a b
    | last a b => exact absurd a hok
    | rule k a => exact absurd a hok
    | none a => exact absurd a hok
end
end Go.Proofs.YtelogjpjglohoaaGreatDoor
