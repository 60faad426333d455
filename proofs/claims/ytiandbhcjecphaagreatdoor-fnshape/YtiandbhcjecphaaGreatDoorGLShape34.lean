/- The program's rule for one instruction. The program's search for the first fault. A function that holds to the rules, plain: a prologue, a body, an epilogue; the check finds no fault in it. Where each instruction stands in an epilogue: the program's partsOf. -/
import Derived.Test.YtiandbhcjecphaaGreatDoorGLShape33
import Derived.Test.YtiandbhcjecphaaGreatDoorGLShape9
import Derived.Deep.QuietTactic
import Derived.BigQuiet
import Derived.Laws.StructEq
import Derived.Deep.OwnRows
import Derived.WalkMore
import Derived.ChangeArms
import Derived.Deep.Slices
namespace Go.Proofs.YtiandbhcjecphaaGreatDoor
open Go Go.RowKit
set_option linter.unusedVariables false
theorem ru_jalr {R : Nat → Int} {N : Nat} {f at' : Int} {zs : List Int} {wd : Int → Int} {i : Nat} (h : R (i * 5) = 4) : ruI R N f at' zs wd i = if epB R N f (i - 2) = true then 0 else 18 := by unfold ruI; rw [if_pos h]
theorem ru_call {R : Nat → Int} {N : Nat} {f at' : Int} {zs : List Int} {wd : Int → Int} {i : Nat} (h : R (i * 5) = 3) (k : R (i * 5 + 1) = 1) : ruI R N f at' zs wd i = if hasB zs (at' + 4 * i + R (i * 5 + 4)) = true then 0 else 20 := by
  unfold ruI; rw [if_neg (by omega), if_pos h, if_pos k]
theorem ru_jal {R : Nat → Int} {N : Nat} {f at' : Int} {zs : List Int} {wd : Int → Int} {i : Nat} (h : R (i * 5) = 3) (k : ¬ R (i * 5 + 1) = 1) : ruI R N f at' zs wd i = if R (i * 5 + 1) = 0 ∧ goB R N f i (R (i * 5 + 4)) = true then 0 else 19 := by
  unfold ruI; rw [if_neg (by omega), if_pos h, if_neg k]
theorem ru_branch {R : Nat → Int} {N : Nat} {f at' : Int} {zs : List Int} {wd : Int → Int} {i : Nat} (h0 : 5 ≤ R (i * 5)) (h1 : R (i * 5) ≤ 10) : ruI R N f at' zs wd i = if goB R N f i (R (i * 5 + 4)) = true then 0 else 19 := by
  unfold ruI; rw [if_neg (by omega), if_neg (by omega), if_pos ⟨h0, h1⟩]
theorem ru_plain {R : Nat → Int} {N : Nat} {f at' : Int} {zs : List Int} {i : Nat} (h4 : ¬ R (i * 5) = 4) (h3 : ¬ R (i * 5) = 3) (hb : ¬ (5 ≤ R (i * 5) ∧ R (i * 5) ≤ 10)) : ruI R N f at' zs wdN i = plI R N f i := by
  unfold ruI plI; rw [if_neg h4, if_neg h3, if_neg hb]

/-- A branch's form. -/
theorem form_branch (op : Int) (h0 : 1 ≤ op) (h1 : op ≤ 64) : (shT op).1 = 4 ↔ (5 ≤ op ∧ op ≤ 10) := by
  obtain ⟨n, rfl⟩ : ∃ n : Nat, op = n := ⟨op.toNat, by omega⟩
  have key : ∀ n : Nat, n < 65 → 1 ≤ n → ((shT (n : Int)).1 = 4 ↔ (5 ≤ (n : Int) ∧ (n : Int) ≤ 10)) := by decide +kernel
  exact key n (by omega) (by omega)

theorem isCallYes (op rd r1 r2 im : Int) (w : World) (h : op = 3 ∧ rd = 1) :
    Calls Tryz.prog 29 #[.agg #[.int .i64 op, .int .i64 rd, .int .i64 r1, .int .i64 r2, .int .i64 im]] w fun e w' => e = .returned (.bool true) ∧ Below w.heap.size w w' := by
  have := isCallC op rd r1 r2 im w
  rwa [show decide (op = 3 ∧ rd = 1) = true from decide_eq_true h] at this
theorem isCallNo (op rd r1 r2 im : Int) (w : World) (h : ¬ (op = 3 ∧ rd = 1)) :
    Calls Tryz.prog 29 #[.agg #[.int .i64 op, .int .i64 rd, .int .i64 r1, .int .i64 r2, .int .i64 im]] w fun e w' => e = .returned (.bool false) ∧ Below w.heap.size w w' := by
  have := isCallC op rd r1 r2 im w
  rwa [show decide (op = 3 ∧ rd = 1) = false from decide_eq_false h] at this

section
variable {F g q N cl cq : Nat} {pc : Option Addr} {cc : Nat} {at' f : Int} {R P : Nat → Int} {zs : List Int}
set_option maxRecDepth 100000 in
set_option maxHeartbeats 8000000 in
theorem bodyC (i : Nat) (w : World) (h : FnIs w F g q N cl cq pc cc at' f R P zs) (hi : i < N) (hN : N ≤ 64) (hP : ∀ i, i < N → P i = partI R N f i) (f0 : 16 ≤ f) (f1 : f ≤ 128) (a0 : 0 ≤ at') (a1 : at' ≤ 1048575) (hz : zs.length ≤ 1048576) (hs : Small5 R i) :
    Calls Tryz.prog 51 #[.pointer (some ⟨F, 0, none⟩), .int .i64 i] w fun e w' => e = .returned (.int .i64 (ruI R N f at' zs wdN i)) ∧ Below w.heap.size w w' := by
  have c0 := h.c0
  have c1 := h.c1
  obtain ⟨x0, x1, x2, x3, x4⟩ := h.l.five hi
  simp only [Nat.zero_add] at x0 x1 x2 x3 x4
  obtain ⟨op, ho⟩ : ∃ op, R (i * 5) = op := ⟨_, rfl⟩
  obtain ⟨rd, hr⟩ : ∃ rd, R (i * 5 + 1) = rd := ⟨_, rfl⟩
  obtain ⟨r1, hr1⟩ : ∃ r1, R (i * 5 + 2) = r1 := ⟨_, rfl⟩
  obtain ⟨r2, hr2⟩ : ∃ r2, R (i * 5 + 3) = r2 := ⟨_, rfl⟩
  obtain ⟨im, him⟩ : ∃ im, R (i * 5 + 4) = im := ⟨_, rfl⟩
  have o0 := hs.o0
  have o1 := hs.o1
  rw [ho] at x0 o0 o1
  rw [hr] at x1
  rw [hr1] at x2
  rw [hr2] at x3
  rw [him] at x4
  have B1 : Below w.heap.size w (w.alloc (.cells #[.int .i64 op, .int .i64 rd, .int .i64 r1, .int .i64 r2, .int .i64 im] 39)) := (Below.refl _ _).alloc (Nat.le_refl _) _
  have h1 := h.below B1
  have d1 := h1.c1
  have d2 := h1.p i hi
  simp only [Nat.zero_add] at d2
  rw [hP i hi] at d2
  have HB : Hid (Below w.heap.size w (w.alloc (.cells #[.int .i64 op, .int .i64 rd, .int .i64 r1, .int .i64 r2, .int .i64 im] 39))) := B1
  clear B1 hr1 hr2
  by_cases h4 : op = 4
  · subst h4
    rw [ru_jalr ho]
    have q3 := part_ret R N f i
    obtain ⟨v, hv⟩ : ∃ v, partI R N f i = v := ⟨_, rfl⟩
    rw [hv] at q3 d2
    by_cases h3 : v = 3
    · rw [if_pos (q3.1 h3)]
      subst h3
      clear q3 hv ho hr him
      go_enter Tryz.func51, Tryz.ntmps51
      go_wp2_with (go_at_call 75; refine (faultC _ _ _).mono ?_; rintro e w' ⟨rfl, rfl⟩)
      go_ret
      exact ⟨rfl, HB.out⟩
    · rw [if_neg (fun e => h3 (q3.2 e))]
      have h3b : (v == 3) = false := by simpa using h3
      clear q3 hv ho hr him
      go_enter Tryz.func51, Tryz.ntmps51
      go_wp2_with (go_at_call 75; refine (faultC _ _ _).mono ?_; rintro e w' ⟨rfl, rfl⟩)
      go_ret
      exact ⟨congrArg (fun x => Ending.returned (.int .i64 x)) (by first | rfl | simp [h3b]), HB.out⟩
  have h4b : (op == 4) = false := by simpa using h4
  by_cases h3 : op = 3
  · by_cases hrd : rd = 1
    · rw [ru_call (ho.trans h3) (hr.trans hrd)]
      subst h3 hrd
      have hmc := fun w' hh => mayCallC (F := F) (g := g) (q := q) (N := N) (cl := cl) (cq := cq) (pc := pc) (cc := cc) (at' := at') (f := f) (R := R) (P := P) (zs := zs) i w' hh hi hN hz a0 a1 hs
      obtain ⟨b, hb⟩ : ∃ b, hasB zs (at' + 4 * i + R (i * 5 + 4)) = b := ⟨_, rfl⟩
      rw [hb] at hmc ⊢
      clear hb ho hr him
      go_enter Tryz.func51, Tryz.ntmps51
      go_wp2_with fail
      refine (isCallYes _ _ _ _ _ _ (by omega)).mono ?_
      rintro e w2 ⟨rfl, hb2⟩
      have h2 := h1.below hb2
      have HB2 : Hid (Below w.heap.size w w2) := HB.out.trans (hb2.mono (by simp))
      clear hb2 h1 HB d1 d2
      go_wp2_with fail
      refine (hmc _ h2).mono ?_
      rintro e w3 ⟨rfl, hb3⟩
      have HB3 : Hid (Below w.heap.size w w3) := HB2.out.trans (hb3.mono HB2.out.size)
      clear hb3 h2 HB2
      go_wp2_with (go_at_call 75; refine (faultC _ _ _).mono ?_; rintro e w' ⟨rfl, rfl⟩)
      all_goals
        go_ret
        exact ⟨rfl, HB3.out⟩
    · rw [ru_jal (ho.trans h3) (by rw [hr]; exact hrd), hr]
      have hmj := fun w' hh => mayJumpC (F := F) (g := g) (q := q) (N := N) (cl := cl) (cq := cq) (pc := pc) (cc := cc) (at' := at') (f := f) (R := R) (P := P) (zs := zs) i w' hh hi hN hP hs
      obtain ⟨b, hb⟩ : ∃ b, goB R N f i (R (i * 5 + 4)) = b := ⟨_, rfl⟩
      rw [hb] at hmj ⊢
      clear hb ho hr him
      by_cases h0 : rd = 0
      · subst h0 h3
        go_enter Tryz.func51, Tryz.ntmps51
        go_wp2_with fail
        refine (isCallNo _ _ _ _ _ _ (by omega)).mono ?_
        rintro e w2 ⟨rfl, hb2⟩
        have h2 := h1.below hb2
        have HB2 : Hid (Below w.heap.size w w2) := HB.out.trans (hb2.mono (by simp))
        have y0 := (hb2.cell (p := ⟨w.heap.size, 0, none⟩) (by simp)).trans (show _ = some (.int .i64 3) by simp)
        have y1 := (hb2.cell (p := ⟨w.heap.size, 1, none⟩) (by simp)).trans (show _ = some (.int .i64 0) by simp)
        clear hb2 h1 HB d1 d2
        go_wp2_with (first | (go_at_call 75; refine (faultC _ _ _).mono ?_; rintro e w' ⟨rfl, rfl⟩) | (go_at_call 77; refine (hmj _ h2).mono ?_; rintro e w' ⟨rfl, rfl⟩))
        all_goals
          go_ret
          refine ⟨congrArg (fun x => Ending.returned (.int .i64 x)) ?_, HB2.out⟩
          first
            | rfl
            | (cases b <;> simp; done)
            | simp_all
      · have h0b : (rd == 0) = false := by simpa using h0
        subst h3
        rw [if_neg (fun hh => h0 hh.1)]
        go_enter Tryz.func51, Tryz.ntmps51
        go_wp2_with fail
        refine (isCallNo _ _ _ _ _ _ (by omega)).mono ?_
        rintro e w2 ⟨rfl, hb2⟩
        have h2 := h1.below hb2
        have HB2 : Hid (Below w.heap.size w w2) := HB.out.trans (hb2.mono (by simp))
        have y0 := (hb2.cell (p := ⟨w.heap.size, 0, none⟩) (by simp)).trans (show _ = some (.int .i64 3) by simp)
        have y1 := (hb2.cell (p := ⟨w.heap.size, 1, none⟩) (by simp)).trans (show _ = some (.int .i64 rd) by simp)
        clear hb2 h1 HB d1 d2
        go_wp2_with (first | (go_at_call 75; refine (faultC _ _ _).mono ?_; rintro e w' ⟨rfl, rfl⟩) | (go_at_call 77; refine (hmj _ h2).mono ?_; rintro e w' ⟨rfl, rfl⟩))
        go_ret
        exact ⟨congrArg (fun x => Ending.returned (.int .i64 x)) (by first | rfl | simp [h0b]), HB2.out⟩
  have h3b : (op == 3) = false := by simpa using h3
  have hfb := form_branch op o0 o1
  have hsh := fun w' => shapeC op w'
  obtain ⟨⟨f4, fc, fg, fh⟩, hsq⟩ : ∃ s, shT op = s := ⟨_, rfl⟩
  simp only [hsq] at hfb hsh
  simp only [shV] at hsh
  by_cases hbr : 5 ≤ op ∧ op ≤ 10
  · rw [ru_branch (by omega) (by omega)]
    obtain rfl := hfb.2 hbr
    have hmj := fun w' hh => mayJumpC (F := F) (g := g) (q := q) (N := N) (cl := cl) (cq := cq) (pc := pc) (cc := cc) (at' := at') (f := f) (R := R) (P := P) (zs := zs) i w' hh hi hN hP hs
    obtain ⟨b, hb⟩ : ∃ b, goB R N f i (R (i * 5 + 4)) = b := ⟨_, rfl⟩
    rw [hb] at hmj ⊢
    clear hb ho hr him hfb hbr
    go_enter Tryz.func51, Tryz.ntmps51
    go_wp2_with fail
    refine (isCallNo _ _ _ _ _ _ (by omega)).mono ?_
    rintro e w2 ⟨rfl, hb2⟩
    have h2 := h1.below hb2
    have HB2 : Hid (Below w.heap.size w w2) := HB.out.trans (hb2.mono (by simp))
    have y0 := (hb2.cell (p := ⟨w.heap.size, 0, none⟩) (by simp)).trans (show _ = some (.int .i64 op) by simp)
    clear hb2 h1 HB d1 d2
    go_wp2_with fail
    refine (hsh _).mono ?_
    rintro e w3 ⟨rfl, hb3⟩
    have h5 := h2.below hb3
    have HB3 : Hid (Below w.heap.size w w3) := HB2.out.trans (hb3.mono HB2.out.size)
    clear hb3 h2 HB2 hsh
    have hfd := shField0 4 fc fg fh w3
    go_wp2_with (first | (go_at_call 75; refine (faultC _ _ _).mono ?_; rintro e w' ⟨rfl, rfl⟩) | (go_at_call 77; refine (hmj _ h5).mono ?_; rintro e w' ⟨rfl, rfl⟩))
    all_goals
      go_ret
      exact ⟨rfl, HB3.out⟩
  · rw [ru_plain (by rw [ho]; exact h4) (by rw [ho]; exact h3) (by rw [ho]; exact hbr)]
    have hf4 : ¬ f4 = 4 := fun e => hbr (hfb.1 e)
    have hf4b : (f4 == 4) = false := by simpa using hf4
    have hpl := fun w' hh => plainC (F := F) (g := g) (q := q) (N := N) (cl := cl) (cq := cq) (pc := pc) (cc := cc) (at' := at') (f := f) (R := R) (P := P) (zs := zs) i w' hh hi hN hP f0 f1 hs
    obtain ⟨res, hres⟩ : ∃ res, plI R N f i = res := ⟨_, rfl⟩
    rw [hres] at hpl ⊢
    clear hres ho hr him hfb hbr
    go_enter Tryz.func51, Tryz.ntmps51
    go_wp2_with fail
    refine (isCallNo _ _ _ _ _ _ (by omega)).mono ?_
    rintro e w2 ⟨rfl, hb2⟩
    have h2 := h1.below hb2
    have HB2 : Hid (Below w.heap.size w w2) := HB.out.trans (hb2.mono (by simp))
    have y0 := (hb2.cell (p := ⟨w.heap.size, 0, none⟩) (by simp)).trans (show _ = some (.int .i64 op) by simp)
    clear hb2 h1 HB d1 d2
    go_wp2_with fail
    refine (hsh _).mono ?_
    rintro e w3 ⟨rfl, hb3⟩
    have h5 := h2.below hb3
    have HB3 : Hid (Below w.heap.size w w3) := HB2.out.trans (hb3.mono HB2.out.size)
    clear hb3 h2 HB2 hsh
    have hfd := shField0 f4 fc fg fh w3
    go_wp2_with (go_at_call 78; refine (hpl _ h5).mono ?_; rintro e w4 ⟨rfl, hb4⟩)
    go_ret
    exact ⟨rfl, HB3.out.trans (hb4.mono HB3.out.size)⟩
end
end Go.Proofs.YtiandbhcjecphaaGreatDoor

namespace Go.Proofs.YtiandbhcjecphaaGreatDoor
open Go Go.RowKit
set_option linter.unusedVariables false
/-- Two instructions are alike. -/
def sm5 (a0 a1 a2 a3 a4 b0 b1 b2 b3 b4 : Int) : Bool := a0 == b0 && (a1 == b1 && (a2 == b2 && (a3 == b3 && a4 == b4)))
theorem sm5_iff {a0 a1 a2 a3 a4 b0 b1 b2 b3 b4 : Int} : sm5 a0 a1 a2 a3 a4 b0 b1 b2 b3 b4 = true ↔ a0 = b0 ∧ a1 = b1 ∧ a2 = b2 ∧ a3 = b3 ∧ a4 = b4 := by simp [sm5]
theorem fieldsIns : Tryz.prog.underlying 39 = some (.struct (Tryz.prog.fieldsOf 39)) := by kernel_rfl
theorem heldIns : Tryz.prog.stoodInHeld 39 = false := by kernel_rfl
theorem guardIns : Tryz.prog.eqGuardType Tryz.prog.depth 39 = false := by kernel_rfl
theorem listIns : (Tryz.prog.fieldsOf 39).toList.map (fun f => (f.name, f.type, f.offset)) = [("Op", 3, 0), ("Rd", 3, 1), ("Rs1", 3, 2), ("Rs2", 3, 3), ("Imm", 3, 4)] := by kernel_rfl
theorem eqlIns (a0 a1 a2 a3 a4 b0 b1 b2 b3 b4 : Int) (w : World) : (Op.equalIn 10000 39 (.agg #[.int .i64 a0, .int .i64 a1, .int .i64 a2, .int .i64 a3, .int .i64 a4]) (.agg #[.int .i64 b0, .int .i64 b1, .int .i64 b2, .int .i64 b3, .int .i64 b4])).run Tryz.prog w = .ok (sm5 a0 a1 a2 a3 a4 b0 b1 b2 b3 b4) w := by
  rw [run_equalIn_struct w 9999 _ _ _ fieldsIns heldIns]
  have hl := listIns
  generalize (Tryz.prog.fieldsOf 39).toList = fs at hl ⊢
  have hlen : fs.length = 5 := by simpa using congrArg List.length hl
  match fs, hlen with
  | [f0, f1, f2, f3, f4], _ =>
    simp at hl
    obtain ⟨⟨n0, t0, o0⟩, ⟨n1, t1, o1⟩, ⟨n2, t2, o2⟩, ⟨n3, t3, o3⟩, ⟨n4, t4, o4⟩⟩ := hl
    have hp : ∀ (cs : Array Value) (o : Nat) (x : Int), cs[o]? = some (.int .i64 x) → (part 3 cs o).run Tryz.prog w = .ok (.int .i64 x) w := fun cs o x h => by
      simp [part, isAgg, run_underlying Tryz.underlying3, h]
    have he : ∀ x y : Int, (Op.equalIn 9999 3 (.int .i64 x) (.int .i64 y)).run Tryz.prog w = .ok (x == y) w := fun x y => run_equalIn_int w 9998 _ _ _ x y Tryz.underlying3
    unfold sm5
    simp only [Op.eqFields, n0, t0, o0, n1, t1, o1, n2, t2, o2, n3, t3, o3, n4, t4, o4]
    have pa0 := hp #[.int .i64 a0, .int .i64 a1, .int .i64 a2, .int .i64 a3, .int .i64 a4] 0 a0 rfl
    have pa1 := hp #[.int .i64 a0, .int .i64 a1, .int .i64 a2, .int .i64 a3, .int .i64 a4] 1 a1 rfl
    have pa2 := hp #[.int .i64 a0, .int .i64 a1, .int .i64 a2, .int .i64 a3, .int .i64 a4] 2 a2 rfl
    have pa3 := hp #[.int .i64 a0, .int .i64 a1, .int .i64 a2, .int .i64 a3, .int .i64 a4] 3 a3 rfl
    have pa4 := hp #[.int .i64 a0, .int .i64 a1, .int .i64 a2, .int .i64 a3, .int .i64 a4] 4 a4 rfl
    have pb0 := hp #[.int .i64 b0, .int .i64 b1, .int .i64 b2, .int .i64 b3, .int .i64 b4] 0 b0 rfl
    have pb1 := hp #[.int .i64 b0, .int .i64 b1, .int .i64 b2, .int .i64 b3, .int .i64 b4] 1 b1 rfl
    have pb2 := hp #[.int .i64 b0, .int .i64 b1, .int .i64 b2, .int .i64 b3, .int .i64 b4] 2 b2 rfl
    have pb3 := hp #[.int .i64 b0, .int .i64 b1, .int .i64 b2, .int .i64 b3, .int .i64 b4] 3 b3 rfl
    have pb4 := hp #[.int .i64 b0, .int .i64 b1, .int .i64 b2, .int .i64 b3, .int .i64 b4] 4 b4 rfl
    simp [pa0, pa1, pa2, pa3, pa4, pb0, pb1, pb2, pb3, pb4, he]
    cases h0 : (a0 == b0) <;> simp_all
    cases h1 : (a1 == b1) <;> simp_all
    cases h2 : (a2 == b2) <;> simp_all
    cases h3 : (a3 == b3) <;> simp_all
    cases h4 : (a4 == b4) <;> simp_all
/-- Instruction k is the prologue's. -/
def Eq5 (R S : Nat → Int) (k : Nat) : Prop := ∀ j, j < 5 → R (k * 5 + j) = S (k * 5 + j)
/-- The last instruction may be one. -/
def EndOK (R : Nat → Int) (N : Nat) : Prop := R ((N - 1) * 5) = 4 ∨ (R ((N - 1) * 5) = 3 ∧ R ((N - 1) * 5 + 1) = 0)
/-- The first fault of a function's instructions. -/
inductive LintIs (R : Nat → Int) (N : Nat) (f at' : Int) (zs : List Int) : Int → Int → Prop
  | head (k : Nat) (hk : k < 2) (h : ∀ j, j < k → Eq5 R (proR f) j) (hn : ¬ Eq5 R (proR f) k) : LintIs R N f at' zs k 17
  | last (h : ∀ j, j < 2 → Eq5 R (proR f) j) (hn : ¬ EndOK R N) : LintIs R N f at' zs ((N - 1 : Nat) : Int) 22
  | rule (k : Nat) (h : ∀ j, j < 2 → Eq5 R (proR f) j) (he : EndOK R N) (h2 : 2 ≤ k) (hk : k < N) (hb : ∀ j, 2 ≤ j → j < k → ruI R N f at' zs wdN j = 0) (hn : ruI R N f at' zs wdN k ≠ 0) : LintIs R N f at' zs k (ruI R N f at' zs wdN k)
  | none (h : ∀ j, j < 2 → Eq5 R (proR f) j) (he : EndOK R N) (hb : ∀ j, 2 ≤ j → j < N → ruI R N f at' zs wdN j = 0) : LintIs R N f at' zs 0 0

theorem first_of (p : Nat → Prop) (n : Nat) : (∀ j, j < n → p j) ∨ ∃ k, k < n ∧ (∀ j, j < k → p j) ∧ ¬ p k := by
  induction n with
  | zero => exact .inl (fun j hj => absurd hj (Nat.not_lt_zero _))
  | succ n ih =>
    rcases ih with h | ⟨k, h1, h2, h3⟩
    · by_cases e : p n
      · exact .inl (fun j hj => by
          rcases Nat.lt_succ_iff_lt_or_eq.1 hj with h' | rfl
          · exact h j h'
          · exact e)
      · exact .inr ⟨n, Nat.lt_succ_self _, h, e⟩
    · exact .inr ⟨k, Nat.lt_succ_of_lt h1, h2, h3⟩
theorem lint_ex (R : Nat → Int) (N : Nat) (f at' : Int) (zs : List Int) : ∃ x y, LintIs R N f at' zs x y := by
  rcases first_of (Eq5 R (proR f)) 2 with h | ⟨k, h1, h2, h3⟩
  · by_cases he : EndOK R N
    · rcases first_of (fun j => 2 ≤ j → ruI R N f at' zs wdN j = 0) N with hb | ⟨k, k1, k2, k3⟩
      · exact ⟨_, _, .none h he (fun j h2 hj => hb j hj h2)⟩
      · have h2 : 2 ≤ k := by
          by_cases e : 2 ≤ k
          · exact e
          · exact absurd (fun hh => absurd hh e) k3
        exact ⟨_, _, .rule k h he h2 k1 (fun j h2 hj => k2 j hj h2) (fun e => k3 (fun _ => e))⟩
    · exact ⟨_, _, .last h he⟩
  · exact ⟨_, _, .head k h1 h2 h3⟩

section
variable {F g q N cl cq : Nat} {pc : Option Addr} {cc : Nat} {at' f : Int} {R P : Nat → Int} {zs : List Int}
set_option maxRecDepth 100000 in
set_option maxHeartbeats 8000000 in
theorem firstHead (k : Nat) (w : World) (h : FnIs w F g q N cl cq pc cc at' f R P zs) (hN : N ≤ 64) (h5 : 5 ≤ N) (hf : frB f = true) (hk : k < 2) (hok : ∀ j, j < k → Eq5 R (proR f) j) (hn : ¬ Eq5 R (proR f) k) :
    Calls Tryz.prog 27 #[.pointer (some ⟨F, 0, none⟩)] w fun e w' => e = .returned (.tuple #[.int .i64 k, .int .i64 17]) ∧ Below w.heap.size w w' := by
  have c0 := h.c0
  have c3 := h.c3
  go_enter Tryz.func27, Tryz.ntmps27
  go_wp2_with (go_at_call 5; refine (proImpl f _ hf).mono ?_; rintro e w1 ⟨G, rfl, hb, hg, hlt, hfl⟩)
  go_loopw [21] (fun i wr => ∃ m : Nat, m ≤ k ∧ i = .int .i64 m ∧ Below w.heap.size w wr ∧ Below w1.heap.size w1 wr) (fun i _ => 2 - (intOf i).toNat)
  case atStart => exact ⟨0, Nat.zero_le _, rfl, hb, Below.refl _ _⟩
  case round =>
    obtain ⟨m, hm, rfl, hB, hB1⟩ := hrel
    have hlt' : G < wr.heap.size := Nat.lt_of_lt_of_le hlt hB1.size
    have hfl' := hfl.below hB1 hlt
    obtain ⟨y0, y1, y2, y3, y4⟩ := hfl'.rd.five (k := m) (by omega)
    have hfive := hok m
    obtain ⟨b0, e0⟩ : ∃ b, proR f (m * 5) = b := ⟨_, rfl⟩
    obtain ⟨b1, e1⟩ : ∃ b, proR f (m * 5 + 1) = b := ⟨_, rfl⟩
    obtain ⟨b2, e2⟩ : ∃ b, proR f (m * 5 + 2) = b := ⟨_, rfl⟩
    obtain ⟨b3, e3⟩ : ∃ b, proR f (m * 5 + 3) = b := ⟨_, rfl⟩
    obtain ⟨b4, e4⟩ : ∃ b, proR f (m * 5 + 4) = b := ⟨_, rfl⟩
    simp only [Nat.zero_add] at y0 y1 y2 y3 y4
    rw [e0] at y0
    rw [e1] at y1
    rw [e2] at y2
    rw [e3] at y3
    rw [e4] at y4
    have B1 : Below wr.heap.size wr (wr.alloc (.cells #[.int .i64 b0, .int .i64 b1, .int .i64 b2, .int .i64 b3, .int .i64 b4] 39)) := (Below.refl _ _).alloc (Nat.le_refl _) _
    have h1 := (h.below hB).below B1
    have d0 := h1.c0
    obtain ⟨x0, x1, x2, x3, x4⟩ := h1.l.five (k := m) (by omega)
    simp only [Nat.zero_add] at x0 x1 x2 x3 x4
    clear hfl hfl' h1
    have hmN : m < N := by omega
    have hgu := guardIns
    have hsm : sm5 (R (m * 5)) (R (m * 5 + 1)) (R (m * 5 + 2)) (R (m * 5 + 3)) (R (m * 5 + 4)) b0 b1 b2 b3 b4 = true ↔ Eq5 R (proR f) m := by
      rw [sm5_iff, ← e0, ← e1, ← e2, ← e3, ← e4]
      unfold Eq5
      constructor
      · rintro ⟨a0, a1, a2, a3, a4⟩ j hj
        match j, hj with
        | 0, _ => exact a0
        | 1, _ => exact a1
        | 2, _ => exact a2
        | 3, _ => exact a3
        | 4, _ => exact a4
      · intro a
        exact ⟨a 0 (by omega), a 1 (by omega), a 2 (by omega), a 3 (by omega), a 4 (by omega)⟩
    have heq := fun w => eqlIns (R (m * 5)) (R (m * 5 + 1)) (R (m * 5 + 2)) (R (m * 5 + 3)) (R (m * 5 + 4)) b0 b1 b2 b3 b4 w
    by_cases hmk : m = k
    · subst hmk
      have hs : sm5 (R (m * 5)) (R (m * 5 + 1)) (R (m * 5 + 2)) (R (m * 5 + 3)) (R (m * 5 + 4)) b0 b1 b2 b3 b4 = false := by
        cases e : sm5 (R (m * 5)) (R (m * 5 + 1)) (R (m * 5 + 2)) (R (m * 5 + 3)) (R (m * 5 + 4)) b0 b1 b2 b3 b4
        · rfl
        · exact absurd (hsm.1 e) hn
      rw [hs] at heq
      clear hsm hfive hs e0 e1 e2 e3 e4
      go_wp2
      go_region
      go_wp2
      go_ret2
      exact ⟨rfl, hB.trans ((B1.drew).mono hB.size)⟩
    · have hs := hsm.2 (hfive (by omega))
      rw [hs] at heq
      clear hsm hfive hs e0 e1 e2 e3 e4
      go_wp2
      go_region
      go_wp2
      go_round
      case rel => exact ⟨m + 1, by omega, by go_num, hB.trans ((B1.drew).mono hB.size), hB1.trans ((B1.drew).mono hB1.size)⟩
      case measure => simp [intOf]; omega
set_option maxRecDepth 100000 in
set_option maxHeartbeats 8000000 in
theorem firstTail (w : World) (h : FnIs w F g q N cl cq pc cc at' f R P zs) (hN : N ≤ 64) (h5 : 5 ≤ N) (hf : frB f = true) (f0 : 16 ≤ f) (f1 : f ≤ 128) (hok : ∀ j, j < 2 → Eq5 R (proR f) j) (hP : ∀ i, i < N → P i = partI R N f i) (hz : zs.length ≤ 1048576) (a0 : 0 ≤ at') (a1 : at' ≤ 1048575) (hs : ∀ i, i < N → Small5 R i) (x y : Int) (hl : LintIs R N f at' zs x y) :
    Calls Tryz.prog 27 #[.pointer (some ⟨F, 0, none⟩)] w fun e w' => e = .returned (.tuple #[.int .i64 x, .int .i64 y]) ∧ Below w.heap.size w w' := by
  have c0 := h.c0
  have c3 := h.c3
  go_enter Tryz.func27, Tryz.ntmps27
  go_wp2_with (go_at_call 5; refine (proImpl f _ hf).mono ?_; rintro e w1 ⟨G, rfl, hb, hg, hlt, hfl⟩)
  go_loopw [21] (fun i wr => ∃ m : Nat, m ≤ 2 ∧ i = .int .i64 m ∧ Below w.heap.size w wr ∧ Below w1.heap.size w1 wr) (fun i _ => 2 - (intOf i).toNat)
  case atStart => exact ⟨0, Nat.zero_le _, rfl, hb, Below.refl _ _⟩
  case round =>
    obtain ⟨m, hm, rfl, hB, hB1⟩ := hrel
    have hlt' : G < wr.heap.size := Nat.lt_of_lt_of_le hlt hB1.size
    have hfl' := hfl.below hB1 hlt
    by_cases hm2 : m < 2
    · obtain ⟨y0, y1, y2, y3, y4⟩ := hfl'.rd.five (k := m) (by omega)
      have hfive := hok m hm2
      obtain ⟨b0, e0⟩ : ∃ b, proR f (m * 5) = b := ⟨_, rfl⟩
      obtain ⟨b1, e1⟩ : ∃ b, proR f (m * 5 + 1) = b := ⟨_, rfl⟩
      obtain ⟨b2, e2⟩ : ∃ b, proR f (m * 5 + 2) = b := ⟨_, rfl⟩
      obtain ⟨b3, e3⟩ : ∃ b, proR f (m * 5 + 3) = b := ⟨_, rfl⟩
      obtain ⟨b4, e4⟩ : ∃ b, proR f (m * 5 + 4) = b := ⟨_, rfl⟩
      simp only [Nat.zero_add] at y0 y1 y2 y3 y4
      rw [e0] at y0
      rw [e1] at y1
      rw [e2] at y2
      rw [e3] at y3
      rw [e4] at y4
      have B1 : Below wr.heap.size wr (wr.alloc (.cells #[.int .i64 b0, .int .i64 b1, .int .i64 b2, .int .i64 b3, .int .i64 b4] 39)) := (Below.refl _ _).alloc (Nat.le_refl _) _
      have h1 := (h.below hB).below B1
      have d0 := h1.c0
      obtain ⟨x0, x1, x2, x3, x4⟩ := h1.l.five (k := m) (by omega)
      simp only [Nat.zero_add] at x0 x1 x2 x3 x4
      clear hfl hfl' h1
      have hmN : m < N := by omega
      have hgu := guardIns
      have hsm : sm5 (R (m * 5)) (R (m * 5 + 1)) (R (m * 5 + 2)) (R (m * 5 + 3)) (R (m * 5 + 4)) b0 b1 b2 b3 b4 = true := by
        rw [sm5_iff, ← e0, ← e1, ← e2, ← e3, ← e4]
        exact ⟨hfive 0 (by omega), hfive 1 (by omega), hfive 2 (by omega), hfive 3 (by omega), hfive 4 (by omega)⟩
      have heq := fun w => eqlIns (R (m * 5)) (R (m * 5 + 1)) (R (m * 5 + 2)) (R (m * 5 + 3)) (R (m * 5 + 4)) b0 b1 b2 b3 b4 w
      rw [hsm] at heq
      clear hsm hfive e0 e1 e2 e3 e4 hl hok hP hs
      go_wp2
      go_region
      go_wp2
      go_round
      case rel => exact ⟨m + 1, by omega, by go_num, hB.trans ((B1.drew).mono hB.size), hB1.trans ((B1.drew).mono hB1.size)⟩
      case measure => simp [intOf]; omega
    · obtain rfl : m = 2 := by omega
      have h1 := h.below hB
      have d0 := h1.c0
      obtain ⟨x0, x1, x2, x3, x4⟩ := h1.l.five (k := N - 1) (by omega)
      obtain ⟨l, hl1⟩ : ∃ l, N - 1 = l := ⟨_, rfl⟩
      have hNl : N = l + 1 := by omega
      rw [hl1] at x0 x1 x2 x3 x4
      simp only [Nat.zero_add] at x0 x1 x2 x3 x4
      subst hNl
      clear hl1
      have hlast : EndOK R (l + 1) ↔ R (l * 5) = 4 ∨ (R (l * 5) = 3 ∧ R (l * 5 + 1) = 0) := Iff.rfl
      go_wp2_with fail
      refine (mayEndC _ _ _ _ _ _).mono ?_
      rintro e w2 ⟨rfl, hb2⟩
      have h2 := h1.below hb2
      have HB2 : Hid (Below w.heap.size w w2) := hB.trans (hb2.mono hB.size)
      clear hb2 h1 hB hB1 hb hfl hfl' d0 x0 x1 x2 x3 x4 c0 c3
      by_cases he : EndOK R (l + 1)
      · have hd : decide (R (l * 5) = 4 ∨ (R (l * 5) = 3 ∧ R (l * 5 + 1) = 0)) = true := by rw [decide_eq_true_eq]; exact hlast.1 he
        rw [hd]
        have hbd := fun i w' (hh : FnIs w' F g q (l + 1) cl cq pc cc at' f R P zs) (hi : i < l + 1) => bodyC (F := F) (g := g) (q := q) (N := l + 1) (cl := cl) (cq := cq) (pc := pc) (cc := cc) (at' := at') (f := f) (R := R) (P := P) (zs := zs) i w' hh hi hN hP f0 f1 a0 a1 hz (hs i hi)
        clear hP hs hlast hd
        go_wp2_with fail
        go_loopw [9] (fun i wr => ∃ m : Nat, 2 ≤ m ∧ m ≤ l + 1 ∧ i = .int .i64 m ∧ (∀ j, 2 ≤ j → j < m → ruI R (l + 1) f at' zs wdN j = 0) ∧ Below w.heap.size w wr) (fun i _ => (l + 1) - (intOf i).toNat)
        case atStart => exact ⟨2, by omega, by omega, rfl, fun j h1 h2 => by omega, HB2.out⟩
        case round =>
          obtain ⟨m, hm2, hml, rfl, hru, hB⟩ := hrel
          have h3 := h.below hB
          have d0 := h3.c0
          by_cases hlt2 : m < l + 1
          · obtain ⟨r, hr⟩ : ∃ r, ruI R (l + 1) f at' zs wdN m = r := ⟨_, rfl⟩
            have hbm := hbd m _ h3 hlt2
            rw [hr] at hbm
            by_cases hr0 : r = 0
            · subst hr0
              go_wp2_with fail
              refine hbm.mono ?_
              rintro e w3 ⟨rfl, hb3⟩
              have HB3 : Below w.heap.size w w3 := hB.trans (hb3.mono hB.size)
              clear hb3 hB h3 d0 hbm hbd h
              go_wp2_with fail
              go_round
              case rel => exact ⟨m + 1, by omega, by omega, by go_num, fun j h1 h2 => by
                rcases Nat.lt_succ_iff_lt_or_eq.1 h2 with h' | rfl
                · exact hru j h1 h'
                · exact hr, HB3⟩
              case measure => simp [intOf]; omega
            · obtain ⟨rfl, rfl⟩ : x = ((m : Nat) : Int) ∧ y = r := by
                cases hl with
                | head k hk a b => exact absurd (hok k hk) b
                | last a b => exact absurd he b
                | rule k a b h2 hk hb hn =>
                  by_cases hkm : k < m
                  · exact absurd (hru k h2 hkm) hn
                  · by_cases hmk : m < k
                    · exact absurd (hr.symm.trans (hb m hm2 hmk)) hr0
                    · obtain rfl : k = m := by omega
                      exact ⟨rfl, hr⟩
                | none a b hb => exact absurd (hr.symm.trans (hb m hm2 hlt2)) hr0
              have hr0b : (y == 0) = false := by simpa using hr0
              go_wp2_with fail
              refine hbm.mono ?_
              rintro e w3 ⟨rfl, hb3⟩
              have HB3 : Below w.heap.size w w3 := hB.trans (hb3.mono hB.size)
              clear hb3 hB h3 d0 hbm hbd h
              go_wp2_with fail
              go_ret2
              exact ⟨rfl, HB3⟩
          · obtain rfl : m = l + 1 := by omega
            obtain ⟨rfl, rfl⟩ : x = 0 ∧ y = 0 := by
              cases hl with
              | head k hk a b => exact absurd (hok k hk) b
              | last a b => exact absurd he b
              | rule k a b h2 hk hb hn => exact absurd (hru k h2 hk) hn
              | none a b => exact ⟨rfl, rfl⟩
            go_wp2_with fail
            go_ret2
            exact ⟨rfl, hB⟩
      · have hd : decide (R (l * 5) = 4 ∨ (R (l * 5) = 3 ∧ R (l * 5 + 1) = 0)) = false := by rw [decide_eq_false_iff_not]; exact fun h => he (hlast.2 h)
        rw [hd]
        obtain ⟨rfl, rfl⟩ : x = ((l : Nat) : Int) ∧ y = 22 := by
          cases hl with
          | head k hk a b => exact absurd (hok k hk) b
          | last a b => exact ⟨rfl, rfl⟩
          | rule k a b => exact absurd b he
          | none a b => exact absurd b he
        go_wp2_with fail
        go_ret2
        exact ⟨rfl, HB2.out⟩
/-- What firstFault answers. -/
theorem firstC (w : World) (h : FnIs w F g q N cl cq pc cc at' f R P zs) (hN : N ≤ 64) (h5 : 5 ≤ N) (hf : frB f = true) (f0 : 16 ≤ f) (f1 : f ≤ 128) (hP : ∀ i, i < N → P i = partI R N f i) (hz : zs.length ≤ 1048576) (a0 : 0 ≤ at') (a1 : at' ≤ 1048575) (hs : ∀ i, i < N → Small5 R i) (x y : Int) (hl : LintIs R N f at' zs x y) :
    Calls Tryz.prog 27 #[.pointer (some ⟨F, 0, none⟩)] w fun e w' => e = .returned (.tuple #[.int .i64 x, .int .i64 y]) ∧ Below w.heap.size w w' := by
  by_cases hok : ∀ j, j < 2 → Eq5 R (proR f) j
  · exact firstTail w h hN h5 hf f0 f1 hok hP hz a0 a1 hs x y hl
  · cases hl with
    | head k hk a b => exact firstHead k w h hN h5 hf hk a b
    | last a b => exact absurd a hok
    | rule k a => exact absurd a hok
    | none a => exact absurd a hok
end
end Go.Proofs.YtiandbhcjecphaaGreatDoor

namespace Go.Proofs.YtiandbhcjecphaaGreatDoor.Fu
open Go Go.RowKit
set_option linter.unusedVariables false

section
variable {f at' : Int} {cs : List Int} {B : List I5}
theorem Fun_pro {k : Nat} (hk : k < 2) : (Fun f B)[k]? = (proL f)[k]? := by
  unfold Fun
  rw [List.append_assoc, List.getElem?_append_left (by simpa [proL] using hk)]
theorem Fun_body {k : Nat} (hk : k < B.length) : (Fun f B)[2 + k]? = B[k]? := by
  unfold Fun
  rw [List.append_assoc, List.getElem?_append_right (by simp [proL]), List.getElem?_append_left (by simp [proL]; omega)]
  congr 1
  simp [proL]
theorem Fun_epi {k : Nat} : (Fun f B)[2 + B.length + k]? = (epiL f)[k]? := by
  unfold Fun
  rw [List.getElem?_append_right (by simp [proL]; omega)]
  congr 1
  simp [proL]
  omega
theorem epi0 : (Fun f B)[2 + B.length]? = some ⟨14, 1, 2, 0, f - 8⟩ := Fun_epi (k := 0)
theorem epi1 : (Fun f B)[2 + B.length + 1]? = some ⟨22, 2, 2, 0, f⟩ := Fun_epi (k := 1)
theorem epi2 : (Fun f B)[2 + B.length + 2]? = some ⟨4, 0, 1, 0, 0⟩ := Fun_epi (k := 2)
/-- Where an instruction stands. -/
theorem Fun_where (hB : Body f at' cs 2 B) {k : Nat} (h2 : 2 ≤ k) (hk : k < B.length + 5) :
    (∃ x, (Fun f B)[k]? = some x ∧ k < 2 + B.length ∧ Loc f at' cs ((2 : Int) + B.length) k x) ∨ k = 2 + B.length ∨ k = 2 + B.length + 1 ∨ k = 2 + B.length + 2 := by
  by_cases h : k < 2 + B.length
  · obtain ⟨j, rfl⟩ : ∃ j, k = 2 + j := ⟨k - 2, by omega⟩
    have hj : j < B.length := by omega
    obtain ⟨x, hx⟩ : ∃ x, B[j]? = some x := ⟨B[j], List.getElem?_eq_getElem hj⟩
    refine .inl ⟨x, by rw [Fun_body hj]; exact hx, h, ?_⟩
    have := hB j x hx
    rw [show ((2 + j : Nat) : Int) = (2 : Int) + (j : Int) from by omega]
    exact this
  · exact .inr (by omega)
theorem Fun_ep (hB : Body f at' cs 2 B) (i : Nat) : epB (rz (Fun f B)) (B.length + 5) f i = true ↔ i = 2 + B.length := by
  rw [epB_iff]
  constructor
  · rintro ⟨⟨h2, h3⟩, h⟩
    have h10 := h 10 (by omega)
    rw [show i * 5 + 10 = (i + 2) * 5 from by omega] at h10
    have e4 : epiR f 10 = 4 := rfl
    rw [e4] at h10
    rcases Fun_where hB (k := i + 2) (by omega) (by omega) with ⟨x, hx, _, hl⟩ | e | e | e
    · rw [(rz_at hx).1] at h10
      exact absurd h10 hl.jr
    · rw [e, (rz_at epi0).1] at h10
      simp at h10
    · rw [e, (rz_at epi1).1] at h10
      simp at h10
    · omega
  · rintro rfl
    refine ⟨by omega, fun j hj => ?_⟩
    obtain ⟨a0, a1, a2, a3, a4⟩ := rz_at (epi0 (f := f) (B := B))
    obtain ⟨b0, b1, b2, b3, b4⟩ := rz_at (epi1 (f := f) (B := B))
    obtain ⟨c0, c1, c2, c3, c4⟩ := rz_at (epi2 (f := f) (B := B))
    rcases (show j = 0 ∨ j = 1 ∨ j = 2 ∨ j = 3 ∨ j = 4 ∨ j = 5 ∨ j = 6 ∨ j = 7 ∨ j = 8 ∨ j = 9 ∨ j = 10 ∨ j = 11 ∨ j = 12 ∨ j = 13 ∨ j = 14 by omega) with rfl | rfl | rfl | rfl | rfl | rfl | rfl | rfl | rfl | rfl | rfl | rfl | rfl | rfl | rfl
    · exact a0
    · exact a1
    · exact a2
    · exact a3
    · exact a4
    · rw [show (2 + B.length) * 5 + 5 = (2 + B.length + 1) * 5 from by omega]; exact b0
    · rw [show (2 + B.length) * 5 + 6 = (2 + B.length + 1) * 5 + 1 from by omega]; exact b1
    · rw [show (2 + B.length) * 5 + 7 = (2 + B.length + 1) * 5 + 2 from by omega]; exact b2
    · rw [show (2 + B.length) * 5 + 8 = (2 + B.length + 1) * 5 + 3 from by omega]; exact b3
    · rw [show (2 + B.length) * 5 + 9 = (2 + B.length + 1) * 5 + 4 from by omega]; exact b4
    · rw [show (2 + B.length) * 5 + 10 = (2 + B.length + 2) * 5 from by omega]; exact c0
    · rw [show (2 + B.length) * 5 + 11 = (2 + B.length + 2) * 5 + 1 from by omega]; exact c1
    · rw [show (2 + B.length) * 5 + 12 = (2 + B.length + 2) * 5 + 2 from by omega]; exact c2
    · rw [show (2 + B.length) * 5 + 13 = (2 + B.length + 2) * 5 + 3 from by omega]; exact c3
    · rw [show (2 + B.length) * 5 + 14 = (2 + B.length + 2) * 5 + 4 from by omega]; exact c4
theorem ep_no (hB : Body f at' cs 2 B) {i : Nat} (h : i ≠ 2 + B.length) : epB (rz (Fun f B)) (B.length + 5) f i = false := by
  cases e : epB (rz (Fun f B)) (B.length + 5) f i with
  | false => rfl
  | true => exact absurd ((Fun_ep hB i).1 e) h
theorem Fun_head (j : Nat) (hj : j < 2) : Eq5 (rz (Fun f B)) (proR f) j := by
  intro i hi
  obtain ⟨a0, a1, a2, a3, a4⟩ := rz_at (L := Fun f B) (k := 0) (x := ⟨22, 2, 2, 0, -f⟩) (Fun_pro (by omega))
  obtain ⟨b0, b1, b2, b3, b4⟩ := rz_at (L := Fun f B) (k := 1) (x := ⟨21, 0, 2, 1, f - 8⟩) (Fun_pro (by omega))
  rcases (show j = 0 ∨ j = 1 by omega) with rfl | rfl
  · rcases (show i = 0 ∨ i = 1 ∨ i = 2 ∨ i = 3 ∨ i = 4 by omega) with rfl | rfl | rfl | rfl | rfl
    · exact a0
    · exact a1
    · exact a2
    · exact a3
    · exact a4
  · rcases (show i = 0 ∨ i = 1 ∨ i = 2 ∨ i = 3 ∨ i = 4 by omega) with rfl | rfl | rfl | rfl | rfl
    · exact b0
    · exact b1
    · exact b2
    · exact b3
    · exact b4
theorem Fun_goes (hB : Body f at' cs 2 B) {k : Nat} {im : Int} (h4 : im % 4 = 0) (h2 : 2 ≤ (k : Int) + im / 4) (hE : (k : Int) + im / 4 ≤ 2 + B.length) : goB (rz (Fun f B)) (B.length + 5) f k im = true := by
  unfold goB
  rw [decide_eq_true h4, decide_eq_true (show 2 ≤ (k : Int) + im / 4 ∧ (k : Int) + im / 4 < ((B.length + 5 : Nat) : Int) by omega), ep_no hB (by omega), ep_no hB (by omega)]
  rfl
theorem Fun_rule (hB : Body f at' cs 2 B) {k : Nat} (h2 : 2 ≤ k) (hk : k < B.length + 5) : ruI (rz (Fun f B)) (B.length + 5) f at' cs wdN k = 0 := by
  rcases Fun_where hB h2 hk with ⟨x, hx, hlt, hl⟩ | rfl | rfl | rfl
  · obtain ⟨e0, e1, e2, e3, e4⟩ := rz_at hx
    unfold ruI
    rw [e0, e1, e2, e4, if_neg hl.jr]
    by_cases h3 : x.o = 3
    · obtain ⟨j1, j2⟩ := hl.jal h3
      rw [if_pos h3, if_pos j1, if_pos (by unfold hasB; exact List.contains_iff_mem.2 j2)]
    rw [if_neg h3]
    by_cases h5 : 5 ≤ x.o ∧ x.o ≤ 10
    · obtain ⟨p, q, r⟩ := hl.br h5.1 h5.2
      rw [if_pos h5, if_pos (Fun_goes hB p q r)]
    rw [if_neg h5]
    obtain ⟨r1, r2⟩ := hl.rd h3 h5
    rw [if_neg (fun hh => hh.elim (fun h => r1 h.1) (fun h => r2 h.1))]
    rw [if_neg (by rintro ⟨⟨a, b⟩, c, _, d⟩; exact d (hl.mem a b c))]
  · obtain ⟨e0, e1, e2, e3, e4⟩ := rz_at (epi0 (f := f) (B := B))
    unfold ruI
    rw [e0, e1, e2, e4, (Fun_ep hB _).2 rfl]
    simp
  · obtain ⟨e0, e1, e2, e3, e4⟩ := rz_at (epi1 (f := f) (B := B))
    unfold ruI
    rw [e0, e1, e2, e4, show 2 + B.length + 1 - 1 = 2 + B.length from rfl, (Fun_ep hB _).2 rfl]
    simp
  · obtain ⟨e0, e1, e2, e3, e4⟩ := rz_at (epi2 (f := f) (B := B))
    unfold ruI
    rw [e0, show 2 + B.length + 2 - 2 = 2 + B.length from rfl, (Fun_ep hB _).2 rfl]
    simp
/-- The check finds no fault. -/
theorem fun_lint (hB : Body f at' cs 2 B) : LintIs (rz (Fun f B)) (B.length + 5) f at' cs 0 0 :=
  .none (fun j hj => Fun_head j hj) (.inl (by
    rw [show B.length + 5 - 1 = 2 + B.length + 2 from by omega]
    exact (rz_at epi2).1)) (fun j h2 hj => Fun_rule hB h2 hj)
/-- With another frame it does. -/
theorem fun_lint_other {g : Int} (zs : List Int) (a : Int) (h : g ≠ f) : LintIs (rz (Fun f B)) (B.length + 5) g a zs 0 17 := by
  refine .head 0 (by omega) (fun j hj => absurd hj (Nat.not_lt_zero _)) (fun hh => ?_)
  have h4 := hh 4 (by omega)
  have := (rz_at (L := Fun f B) (k := 0) (x := ⟨22, 2, 2, 0, -f⟩) (Fun_pro (by omega))).2.2.2.2
  rw [this] at h4
  have e : proR g (0 * 5 + 4) = -g := rfl
  rw [e] at h4
  exact h (by simpa using h4.symm)
end
end Go.Proofs.YtiandbhcjecphaaGreatDoor.Fu

namespace Go.Proofs.YtiandbhcjecphaaGreatDoor
open Go Go.RowKit
set_option linter.unusedVariables false
theorem Tryz.info_int5 : (Tryz.prog.info? 3).map (fun i => (i.zero, i.size, i.bytes)) = some (some (.int .i64 0), 1, 8) := by kernel_rfl

/-- The k-th instruction of an epilogue stands at s + k. -/
def EqE (R : Nat → Int) (f : Int) (s k : Nat) : Prop := ∀ j, j < 5 → R ((s + k) * 5 + j) = epiR f (k * 5 + j)
theorem epB_of {R : Nat → Int} {N : Nat} {f : Int} {s : Nat} (h2 : 2 ≤ s) (hN : s + 3 ≤ N) (h : ∀ k, k < 3 → EqE R f s k) : epB R N f s = true := by
  refine epB_iff.2 ⟨⟨h2, hN⟩, fun j hj => ?_⟩
  have := h (j / 5) (by omega) (j % 5) (by omega)
  rwa [show (s + j / 5) * 5 + j % 5 = s * 5 + j from by omega, show j / 5 * 5 + j % 5 = j from by omega] at this
theorem epB_not {R : Nat → Int} {N : Nat} {f : Int} {s k : Nat} (hk : k < 3) (h : ¬ EqE R f s k) : epB R N f s = false := by
  cases e : epB R N f s with
  | false => rfl
  | true =>
    refine absurd (fun j hj => ?_) h
    have := (epB_iff.1 e).2 (k * 5 + j) (by omega)
    rwa [show s * 5 + (k * 5 + j) = (s + k) * 5 + j from by omega] at this
theorem partU_zero (R : Nat → Int) (N : Nat) (f : Int) (i : Nat) : partU R N f 2 i = 0 := by
  have h : ∀ j, epB R N f j = true → 2 ≤ j := fun j h => ep_at0 h
  unfold partU
  rw [if_neg (fun c => by have := h _ c.1; omega), if_neg (fun c => by have := h _ c.1; omega), if_neg (fun c => by have := h _ c.1; omega)]
theorem partU_last (R : Nat → Int) (N : Nat) (f : Int) (s i : Nat) (hs : N < s + 3) : partU R N f s i = partI R N f i := by
  have h : ∀ j, (epB R N f j = true ∧ j < s) ↔ epB R N f j = true := fun j => ⟨fun h => h.1, fun h => ⟨h, by have := (epB_iff.1 h).1.2; omega⟩⟩
  unfold partU partI
  simp only [h]
theorem partU_not (R : Nat → Int) (N : Nat) (f : Int) (s i : Nat) (hs : epB R N f s = false) : partU R N f s i = partU R N f (s + 1) i := by
  have h : ∀ j, (epB R N f j = true ∧ j < s) ↔ (epB R N f j = true ∧ j < s + 1) := fun j => ⟨fun h => ⟨h.1, by omega⟩, fun h => ⟨h.1, by
    have : j ≠ s := fun e => by rw [e, hs] at h; cases h.1
    omega⟩⟩
  unfold partU
  simp only [h]
theorem partU_yes (R : Nat → Int) (N : Nat) (f : Int) (s i : Nat) (hs : epB R N f s = true) : (if i = s + 2 then 3 else if i = s + 1 then 2 else if i = s then 1 else partU R N f s i) = partU R N f (s + 1) i := by
  have h1 := epB_next hs
  have h2 := epB_next2 hs
  have h3 := ep_at0 hs
  unfold partU
  by_cases e0 : i = s
  · subst e0
    rw [if_neg (by omega), if_neg (by omega), if_pos rfl, if_pos ⟨hs, by omega⟩]
  · by_cases e1 : i = s + 1
    · subst e1
      rw [if_neg (by omega), if_pos rfl, h1, if_neg (by simp), show s + 1 - 1 = s from by omega, if_pos ⟨hs, by omega⟩]
    · by_cases e2 : i = s + 2
      · subst e2
        rw [if_pos rfl, h2, if_neg (by simp), show s + 2 - 1 = s + 1 from by omega, h1, if_neg (by simp), show s + 2 - 2 = s from by omega, if_pos ⟨hs, by omega⟩]
      · rw [if_neg e2, if_neg e1, if_neg e0]
        have a0 : (epB R N f i = true ∧ i < s) ↔ (epB R N f i = true ∧ i < s + 1) := ⟨fun h => ⟨h.1, by omega⟩, fun h => ⟨h.1, by omega⟩⟩
        have a1 : (epB R N f (i - 1) = true ∧ i - 1 < s) ↔ (epB R N f (i - 1) = true ∧ i - 1 < s + 1) := ⟨fun h => ⟨h.1, by omega⟩, fun h => ⟨h.1, by omega⟩⟩
        have a2 : (epB R N f (i - 2) = true ∧ i - 2 < s) ↔ (epB R N f (i - 2) = true ∧ i - 2 < s + 1) := ⟨fun h => ⟨h.1, by omega⟩, fun h => ⟨h.1, by omega⟩⟩
        simp only [a0, a1, a2]

/-- The tail and the parts, at a round of the loop over starts. -/
structure PtIs (w0 w : World) (g q G N : Nat) (R S T : Nat → Int) : Prop where
  b : Below w0.heap.size w0 w
  lg : g < w0.heap.size
  lq : w0.heap.size ≤ q
  qG : q < G
  lG : G < w.heap.size
  l : Rdb w g 0 (N * 5) R
  t : Rdb w G 0 (3 * 5) S
  p : Flat w q 0 N T
theorem PtIs.to {w0 w w' : World} {g q G N : Nat} {R S T : Nat → Int} (h : PtIs w0 w g q G N R S T) (hb : Below w.heap.size w w') : PtIs w0 w' g q G N R S T :=
  ⟨h.b.trans (hb.mono h.b.size), h.lg, h.lq, h.qG, Nat.lt_of_lt_of_le h.lG hb.size, h.l.below hb (Nat.lt_of_lt_of_le h.lg h.b.size), h.t.below hb h.lG, h.p.below hb (Nat.lt_trans h.qG h.lG)⟩
theorem PtIs.drew {w0 w : World} {g q G N : Nat} {R S T : Nat → Int} (h : PtIs w0 w g q G N R S T) : PtIs w0 w.drew g q G N R S T := h.to (Below.refl _ _).drew
theorem PtIs.congr {w0 w : World} {g q G N : Nat} {R S T T' : Nat → Int} (h : PtIs w0 w g q G N R S T) (e : ∀ i, i < N → T i = T' i) : PtIs w0 w g q G N R S T' := ⟨h.b, h.lg, h.lq, h.qG, h.lG, h.l, h.t, h.p.congr e⟩
theorem PtIs.set {w0 w : World} {g q G N : Nat} {R S T : Nat → Int} (h : PtIs w0 w g q G N R S T) (t : Nat) (ht : t < N) (x : Int) : PtIs w0 (w.setCell ⟨q, t, none⟩ (.int .i64 x)) g q G N R S (fun i => if i = t then x else T i) := by
  have ne : ∀ b i, b ≠ q → (w.setCell ⟨q, t, none⟩ (.int .i64 x)).cell? ⟨b, i, none⟩ = w.cell? ⟨b, i, none⟩ := fun b i hb => World.cell?_setCell_other _ _ _ _ (fun c => hb (by have := congrArg Addr.block c; simp at this; omega))
  refine ⟨h.b.setCell (p := ⟨q, t, none⟩) h.lq _, h.lg, h.lq, h.qG, by simpa using h.lG, fun i hi => ?_, fun i hi => ?_, ?_⟩
  · rw [ne _ _ (by have := h.lg; have := h.lq; omega)]; exact h.l i hi
  · rw [ne _ _ (by have := h.qG; omega)]; exact h.t i hi
  · have := h.p.set t ht (a := t) (by omega) x
    exact this

set_option maxRecDepth 100000 in
set_option maxHeartbeats 16000000 in
theorem partsC (g N cl : Nat) (f : Int) (R : Nat → Int) (w : World) (hg : g < w.heap.size) (hN : N ≤ 64) (h5 : 5 ≤ N) (hf : frB f = true) (hl : Rdb w g 0 (N * 5) R) :
    Calls Tryz.prog 26 #[.slice (some ⟨g, 0, none⟩) N cl, .int .i64 f] w fun e w' => ∃ q, e = .returned (.slice (some ⟨q, 0, none⟩) N N) ∧ Below w.heap.size w w' ∧ w.heap.size ≤ q ∧ q < w'.heap.size ∧ Rdb w' q 0 N (partI R N f) := by
  obtain ⟨i0, hi, hz0, hz1, hz2⟩ := info_parts Tryz.info_int5
  go_enter Tryz.func26, Tryz.ntmps26
  go_wp2
  go_step3
  go_wp2_with (at_make; refine wpList_make_full _ rfl _ _ 35 rfl w.heap.size 3 i0 _ 1 Tryz.underlying35 hi hz0 hz1 .i64 .i64 _ _ N rfl rfl (by omega) (by omega) (by rw [hz2]; omega) (by unfold maxLen; omega) (Nat.le_refl _) ?_; intro wm hm hgm)
  go_wp2_with fail
  refine (epiImpl f _ hf).mono ?_
  rintro e w1 ⟨G, rfl, hb, hG, hlt, hfl⟩
  go_wp2_with fail
  have hst : PtIs w w1 g w.heap.size G N R (epiR f) (partU R N f 2) := by
    have b0 : Below w.heap.size w wm := (Below.refl _ _).grown hgm (Nat.le_refl _) (fun _ h => by cases h)
    have hp0 : Flat wm w.heap.size 0 N (partU R N f 2) := fun i hi => by
      have h1 := hm.cellAt i (by omega)
      rw [partU_zero, Nat.zero_add]
      exact ⟨h1.trans (by simp [Value.cells, madeCells, hi, Nat.mod_one]), hm.frozenAt i⟩
    have hq : w.heap.size < wm.heap.size := by
      rcases Nat.lt_or_ge w.heap.size wm.heap.size with h | h
      · exact h
      · have := (hp0 0 (by omega)).1
        simp [World.cell?, Array.getElem?_eq_none h] at this
    exact ⟨b0.trans (hb.mono b0.size), hg, Nat.le_refl _, Nat.lt_of_lt_of_le hq hG, hlt, (hl.below b0 hg).below hb (Nat.lt_of_lt_of_le hg b0.size), hfl.rd, hp0.below hb hq⟩
  clear hb hG hlt hfl
  go_step3
  go_wp2_with fail
  go_loopw [8] (fun i wr => ∃ s : Nat, 2 ≤ s ∧ s ≤ N ∧ i = .int .i64 s ∧ PtIs w wr g w.heap.size G N R (epiR f) (partU R N f s)) (fun i _ => (N + 1) - (intOf i).toNat)
  case atStart => exact ⟨2, by omega, by omega, rfl, hst⟩
  case round =>
    obtain ⟨s, hs2, hsN, rfl, hp⟩ := hrel
    clear hst
    by_cases hlt : s + 3 ≤ N
    · go_wp2_with fail
      go_loopw [31] (fun i wr => ∃ m : Nat, m ≤ 3 ∧ i = .int .i64 m ∧ (∀ j, j < m → EqE R f s j) ∧ PtIs w wr g w.heap.size G N R (epiR f) (partU R N f s)) (fun i _ => 3 - (intOf i).toNat)
      case atStart => exact ⟨0, by omega, rfl, fun j h => by omega, hp⟩
      case round =>
        obtain ⟨m, hm3, rfl, hok, hp⟩ := hrel
        by_cases hm : m < 3
        · obtain ⟨y0, y1, y2, y3, y4⟩ := hp.t.five (k := m) hm
          obtain ⟨b0, e0⟩ : ∃ b, epiR f (m * 5) = b := ⟨_, rfl⟩
          obtain ⟨b1, e1⟩ : ∃ b, epiR f (m * 5 + 1) = b := ⟨_, rfl⟩
          obtain ⟨b2, e2⟩ : ∃ b, epiR f (m * 5 + 2) = b := ⟨_, rfl⟩
          obtain ⟨b3, e3⟩ : ∃ b, epiR f (m * 5 + 3) = b := ⟨_, rfl⟩
          obtain ⟨b4, e4⟩ : ∃ b, epiR f (m * 5 + 4) = b := ⟨_, rfl⟩
          simp only [Nat.zero_add] at y0 y1 y2 y3 y4
          rw [e0] at y0
          rw [e1] at y1
          rw [e2] at y2
          rw [e3] at y3
          rw [e4] at y4
          have B1 : Below wr.heap.size wr (wr.alloc (.cells #[.int .i64 b0, .int .i64 b1, .int .i64 b2, .int .i64 b3, .int .i64 b4] 39)) := (Below.refl _ _).alloc (Nat.le_refl _) _
          have hp1 := hp.to B1
          obtain ⟨x0, x1, x2, x3, x4⟩ := hp1.l.five (k := s + m) (by omega)
          simp only [Nat.zero_add] at x0 x1 x2 x3 x4
          have hgu := guardIns
          have hsm : sm5 (R ((s + m) * 5)) (R ((s + m) * 5 + 1)) (R ((s + m) * 5 + 2)) (R ((s + m) * 5 + 3)) (R ((s + m) * 5 + 4)) b0 b1 b2 b3 b4 = true ↔ EqE R f s m := by
            rw [sm5_iff, ← e0, ← e1, ← e2, ← e3, ← e4]
            unfold EqE
            constructor
            · rintro ⟨a0, a1, a2, a3, a4⟩ j hj
              match j, hj with
              | 0, _ => exact a0
              | 1, _ => exact a1
              | 2, _ => exact a2
              | 3, _ => exact a3
              | 4, _ => exact a4
            · intro a
              exact ⟨a 0 (by omega), a 1 (by omega), a 2 (by omega), a 3 (by omega), a 4 (by omega)⟩
          have heq := fun w => eqlIns (R ((s + m) * 5)) (R ((s + m) * 5 + 1)) (R ((s + m) * 5 + 2)) (R ((s + m) * 5 + 3)) (R ((s + m) * 5 + 4)) b0 b1 b2 b3 b4 w
          have hmN : s + m < N := by omega
          by_cases hE : EqE R f s m
          · rw [hsm.2 hE] at heq
            clear hsm e0 e1 e2 e3 e4
            go_wp2_with fail
            go_region
            go_wp2_with fail
            go_round
            case rel => exact ⟨m + 1, by omega, by go_num, fun j hj => by
              rcases Nat.lt_succ_iff_lt_or_eq.1 hj with h | rfl
              · exact hok j h
              · exact hE, hp1.drew⟩
            case measure => simp [intOf]; omega
          · have hs : sm5 (R ((s + m) * 5)) (R ((s + m) * 5 + 1)) (R ((s + m) * 5 + 2)) (R ((s + m) * 5 + 3)) (R ((s + m) * 5 + 4)) b0 b1 b2 b3 b4 = false := by
              cases e : sm5 (R ((s + m) * 5)) (R ((s + m) * 5 + 1)) (R ((s + m) * 5 + 2)) (R ((s + m) * 5 + 3)) (R ((s + m) * 5 + 4)) b0 b1 b2 b3 b4
              · rfl
              · exact absurd (hsm.1 e) hE
            rw [hs] at heq
            clear hsm hs e0 e1 e2 e3 e4
            go_wp2_with fail
            go_region
            go_wp2_with fail
            go_round
            case rel => exact ⟨s + 1, by omega, by omega, by go_num, hp1.drew.congr (fun i _ => partU_not R N f s i (epB_not hm hE))⟩
            case measure => simp [intOf]; omega
        · obtain rfl : m = 3 := by omega
          have hyes := epB_of hs2 hlt hok
          go_wp2_with fail
          go_loopw [47] (fun i wr => ∃ m : Nat, m ≤ 3 ∧ i = .int .i64 m ∧ PtIs w wr g w.heap.size G N R (epiR f) (fun i => if s ≤ i ∧ i < s + m then ((i : Int) - s + 1) else partU R N f s i)) (fun i _ => 3 - (intOf i).toNat)
          case atStart => exact ⟨0, by omega, rfl, hp.congr (fun i _ => by rw [if_neg (by omega)])⟩
          case round =>
            obtain ⟨m, hm3, rfl, hp⟩ := hrel
            by_cases hm : m < 3
            · have hmN : s + m < N := by omega
              have y0 := (hp.p (s + m) hmN).1
              have y1 := (hp.p (s + m) hmN).2
              rw [Nat.zero_add] at y0 y1
              have hp1 := hp.set (s + m) hmN (1 + (m : Int))
              go_wp2_with fail
              go_round
              case rel => exact ⟨m + 1, by omega, by go_num, hp1.congr (fun i _ => by
                by_cases e : i = s + m
                · subst e; rw [if_pos rfl, if_pos (by omega)]; omega
                · rw [if_neg e]
                  by_cases e2 : s ≤ i ∧ i < s + m
                  · rw [if_pos e2, if_pos (by omega)]
                  · rw [if_neg e2, if_neg (by omega)])⟩
              case measure => simp [intOf]; omega
            · obtain rfl : m = 3 := by omega
              have hp2 := hp.congr (T' := partU R N f (s + 1)) (fun i _ => by
                rw [← partU_yes R N f s i hyes]
                by_cases e2 : i = s + 2
                · subst e2; rw [if_pos (by omega), if_pos rfl]; omega
                · rw [if_neg e2]
                  by_cases e1 : i = s + 1
                  · subst e1; rw [if_pos (by omega), if_pos rfl]; omega
                  · rw [if_neg e1]
                    by_cases e0 : i = s
                    · subst e0; rw [if_pos (by omega), if_pos rfl]; omega
                    · rw [if_neg e0, if_neg (by omega)])
              clear hp
              go_wp2_with fail
              go_round
              case rel => exact ⟨s + 1, by omega, by omega, by go_num, hp2⟩
              case measure => simp [intOf]; omega
    · go_wp2_with fail
      simp only [Exit.noGoto_ret]
      go_ret
      exact ⟨_, rfl, hp.b, hp.lq, Nat.lt_trans hp.qG hp.lG, (hp.p.congr (fun i hi => partU_last R N f s i (by omega))).rd⟩
end Go.Proofs.YtiandbhcjecphaaGreatDoor
