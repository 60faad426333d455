/- Both InstrsOf. The program's LintFunction. The model's look at an image, whole. The model's check of functions: its small questions. The model's check of functions: where jumps go. The model's rule for one instruction. The model's rule for one instruction that goes nowhere: its cases, 1. The model's rule for one instruction that goes nowhere: its cases, 2. The model's rule for one instruction that goes nowhere: its cases, 3. The model's rule for one instruction that goes nowhere: its cases, 4. The model's rule for one instruction that goes nowhere: its cases, 5. The model's rule for one instruction. Both LintFunction. The model's check of functions, whole; both checks. The model's inner check and the program's LintFunction: both answer the same. What the check of an image tells, of its functions too; the model's questions to images. The program's look at an image's functions. The program's look at an image, whole: LintImage. The model's questions to images: AddressOf, SymbolNamed, SymbolAt. The program's questions to images: ImageOK, AddressOf, SymbolNamed, SymbolAt. Both checks of an image tell the same. (ImgI, the program's check: progImg. ImgQ, its questions: progOK, progAddr, progNamed, progNamedLong, progNamedBad, progAt, progAtBad.) -/
import Derived.Test.YthihlbfmpkjhpaaGreatDoorGXLintImage38
import Derived.Test.YthihlbfmpkjhpaaGreatDoorGXLintImage18
import Derived.Test.YthihlbfmpkjhpaaGreatDoorGXLintImage17
import Derived.Test.YthihlbfmpkjhpaaGreatDoorGXLintImage2
import Derived.Test.YthihlbfmpkjhpaaGreatDoorGXLintImage37
namespace Go.Proofs.YthihlbfmpkjhpaaGreatDoor
open Go Go.RowKit
set_option linter.unusedVariables false

theorem crC_cases (n : Nat) : (65536 < n ∧ crC n 0 = 2) ∨ (n ≤ 65536 ∧ ¬ (n % 4 = 0 ∧ n ≤ 256) ∧ crC n 0 = 8) ∨ (n % 4 = 0 ∧ n ≤ 256 ∧ crC n 0 = 0) := by
  unfold crC
  by_cases h : 65536 < n
  · exact .inl ⟨h, by rw [if_pos h]⟩
  · by_cases h1 : n % 4 = 0 ∧ n ≤ 256
    · exact .inr (.inr ⟨h1.1, h1.2, by rw [if_neg h, if_pos ⟨h1.1, by omega, h1.2⟩]⟩)
    · exact .inr (.inl ⟨by omega, h1, by rw [if_neg h, if_neg (fun x => h1 ⟨x.1, x.2.2⟩)]⟩)

end Go.Proofs.YthihlbfmpkjhpaaGreatDoor

namespace Go.Proofs.YthihlbfmpkjhpaaGreatDoor
open Go Go.RowKit
set_option linter.unusedVariables false

def plB (a : Int) : Bool := decide (0 ≤ a ∧ a ≤ 1048575 ∧ a % 4 = 0)
theorem placeC (a : Int) (w : World) (hw : (Lit.int .i64 a).wf = true) :
    Calls Tryz.prog 114 #[.int .i64 a] w fun e w' => e = .returned (.bool (plB a)) ∧ w' = w := by
  by_cases h0 : 0 ≤ a
  · by_cases h1 : a ≤ 1048575
    · by_cases h2 : a % 4 = 0
      · have e : plB a = true := by simp [plB, h0, h1, h2]
        rw [e]
        go_enter Tryz.func114, Tryz.ntmps114
        go_wp2
        go_ret
        exact ⟨rfl, rfl⟩
      · have e : plB a = false := by simp [plB, h0, h1, h2]
        rw [e]
        go_enter Tryz.func114, Tryz.ntmps114
        go_wp2
        go_ret
        exact ⟨congrArg (fun x => Ending.returned (.bool x)) (by simp [h2]), rfl⟩
    · have e : plB a = false := by simp [plB, h0, h1]
      rw [e]
      go_enter Tryz.func114, Tryz.ntmps114
      go_wp2
      go_ret
      exact ⟨rfl, rfl⟩
  · have e : plB a = false := by simp [plB, h0]
    rw [e]
    go_enter Tryz.func114, Tryz.ntmps114
    go_wp2
    go_ret
    exact ⟨rfl, rfl⟩

/-- The code of arguments that no function has. -/
def cfC (n k : Nat) (a f : Int) : Int := if 65536 < n ∨ 4096 < k then 2 else if plB a = false then 4 else if frB f = false then 17 else crC n 5
theorem checkFnC (s : ByteArray) (a f : Int) (pc : Option Addr) (k cc : Nat) (w : World) (hs : s.size ≤ maxLen) (hk : k ≤ 1048576) (ha : (Lit.int .i64 a).wf = true) (hf : (Lit.int .i64 f).wf = true) :
    Calls Tryz.prog 93 #[.string s, .int .i64 a, .int .i64 f, .slice pc k cc] w fun e w' => e = .returned (.int .i64 (cfC s.size k a f)) ∧ w' = w := by
  have hs' := hs
  unfold maxLen at hs'
  unfold cfC
  by_cases h0 : 65536 < s.size
  · rw [if_pos (.inl h0)]
    go_enter Tryz.func93, Tryz.ntmps93
    go_wp2
    go_ret
    exact ⟨rfl, rfl⟩
  by_cases h1 : 4096 < k
  · rw [if_pos (.inr h1)]
    go_enter Tryz.func93, Tryz.ntmps93
    go_wp2
    go_ret
    exact ⟨rfl, rfl⟩
  rw [if_neg (by omega)]
  by_cases h2 : plB a = false
  · rw [if_pos h2]
    go_enter Tryz.func93, Tryz.ntmps93
    go_wp2_with (go_at_call 114; refine (placeC a _ ha).mono ?_; rintro e w' ⟨rfl, rfl⟩; rw [h2])
    go_ret
    exact ⟨rfl, rfl⟩
  have h2' : plB a = true := by cases e : plB a <;> simp_all
  rw [if_neg h2]
  by_cases h3 : frB f = false
  · rw [if_pos h3]
    go_enter Tryz.func93, Tryz.ntmps93
    go_wp2_with (first | (go_at_call 114; refine (placeC a _ ha).mono ?_; rintro e w' ⟨rfl, rfl⟩; rw [h2']) | (go_at_call 115; refine (frImpl f _ hf).mono ?_; rintro e w' ⟨rfl, rfl⟩; rw [h3]))
    go_ret
    exact ⟨rfl, rfl⟩
  have h3' : frB f = true := by cases e : frB f <;> simp_all
  rw [if_neg h3]
  go_enter Tryz.func93, Tryz.ntmps93
  go_wp2_with (first | (go_at_call 114; refine (placeC a _ ha).mono ?_; rintro e w' ⟨rfl, rfl⟩; rw [h2']) | (go_at_call 115; refine (frImpl f _ hf).mono ?_; rintro e w' ⟨rfl, rfl⟩; rw [h3']) | (go_at_call 116; refine (checkRunC s 5 _ hs (by omega)).mono ?_; rintro e w' ⟨rfl, rfl⟩))
  go_ret
  exact ⟨rfl, rfl⟩

theorem num_bd {f im : Int} (f0 : 1 ≤ f) (f1 : f ≤ 9) (rd r1 r2 : Int) (h : rightF f rd r1 r2 im = true) : -2147483648 ≤ im ∧ im ≤ 2147483647 := by
  have hok : ∀ g, 0 ≤ g → g ≤ 9 → okB g im = true → -2147483648 ≤ im ∧ im ≤ 2147483647 := fun g g0 g1 h => by
    have := (okB_iff g im g0 g1).1 h
    unfold okI at this
    repeat' split at this
    all_goals omega
  have hz : (im == 0) = true → -2147483648 ≤ im ∧ im ≤ 2147483647 := fun h => by have := eq_of_beq h; omega
  unfold rightF at h
  split at h
  · exact hok f (by omega) f1 (Bool.and_eq_true_iff.1 h).2
  · split at h
    · exact hok f (by omega) f1 (Bool.and_eq_true_iff.1 h).2
    · split at h
      · exact hok f (by omega) f1 (Bool.and_eq_true_iff.1 h).2
      · split at h
        · exact hz (Bool.and_eq_true_iff.1 h).2
        · exact hz (Bool.and_eq_true_iff.1 h).2
theorem small_of {R : Nat → Int} {i : Nat} (h : rightB (R (i * 5)) (R (i * 5 + 1)) (R (i * 5 + 2)) (R (i * 5 + 3)) (R (i * 5 + 4)) = true) : Small5 R i := by
  unfold rightB at h
  obtain ⟨h1, h2⟩ := Bool.and_eq_true_iff.1 h
  obtain ⟨h3, h4⟩ := of_decide_eq_true h1
  obtain ⟨f0, f1⟩ := shT_form _ h3 h4
  obtain ⟨i0, i1⟩ := num_bd f0 f1 _ _ _ h2
  exact ⟨h3, h4, i0, i1⟩

/-- An answer of two numbers. -/
def TwoN (B : Nat) (x y : Int) (w : World) (e : Ending) (w' : World) : Prop := e = .returned (.tuple #[.int .i64 x, .int .i64 y]) ∧ Below B w w'

theorem lintImplNo (s : ByteArray) (a f : Int) (pc : Option Addr) (k cc : Nat) (w : World) (hs : s.size ≤ maxLen) (hk : k ≤ 1048576) (ha : (Lit.int .i64 a).wf = true) (hf : (Lit.int .i64 f).wf = true) (c : Int) (hc : cfC s.size k a f = c) (h0 : c ≠ 0) :
    Calls Tryz.prog 61 #[.string s, .int .i64 a, .int .i64 f, .slice pc k cc] w fun e w' => TwoN w.heap.size 0 c w e w' := by
  have hb : (c == 0) = false := by simpa using h0
  go_enter Tryz.func61, Tryz.ntmps61
  go_wp2_with (go_at_call 93; refine (checkFnC s a f pc k cc _ hs hk ha hf).mono ?_; rintro e w' ⟨rfl, rfl⟩; rw [hc])
  go_ret2
  exact ⟨rfl, Below.refl _ _⟩
theorem lintImplWrong (s : ByteArray) (a f : Int) (pc : Option Addr) (k cc : Nat) (N j : Nat) (R : Nat → Int) (w : World) (hL : Laid w) (hs : s.size ≤ maxLen) (hk : k ≤ 1048576) (ha : (Lit.int .i64 a).wf = true) (hf : (Lit.int .i64 f).wf = true) (hc : cfC s.size k a f = 0) (hr : Run s N R j) (hj : j < N) :
    Calls Tryz.prog 61 #[.string s, .int .i64 a, .int .i64 f, .slice pc k cc] w fun e w' => TwoN w.heap.size j 10 w e w' := by
  go_enter Tryz.func61, Tryz.ntmps61
  go_wp2_with (go_at_call 93; refine (checkFnC s a f pc k cc _ hs hk ha hf).mono ?_; rintro e w' ⟨rfl, rfl⟩; rw [hc])
  refine (hr.impl _ hL).mono ?_
  rintro e2 w2 ⟨⟨p, n, c, x, y, rfl, ⟨hj', rfl, rfl, rfl⟩ | ⟨hj', rfl, rfl, rfl⟩, ho⟩, hb⟩
  · exact absurd hj (by omega)
  · go_wp2
    go_ret2
    exact ⟨rfl, hb⟩
set_option maxRecDepth 100000 in
set_option maxHeartbeats 4000000 in
theorem lintImplYes (s : ByteArray) (a f : Int) (pc : Option Addr) (cc : Nat) (zs : List Int) (N : Nat) (R : Nat → Int) (w : World) (hL : Laid w) (hs : s.size ≤ maxLen) (hk : zs.length ≤ 1048576) (hz : IntsAt w pc zs) (ha : (Lit.int .i64 a).wf = true) (hf : (Lit.int .i64 f).wf = true) (hc : cfC s.size zs.length a f = 0)
    (hr : Run s N R N) (h5 : 5 ≤ N) (h64 : N ≤ 64) (a0 : 0 ≤ a) (a1 : a ≤ 1048575) (hfr : frB f = true) (x y : Int) (hl : LintIs R N f a zs x y) :
    Calls Tryz.prog 61 #[.string s, .int .i64 a, .int .i64 f, .slice pc zs.length cc] w fun e w' => TwoN w.heap.size x y w e w' := by
  obtain ⟨f0, f1, _⟩ := frB_bd hfr
  have hsm : ∀ i, i < N → Small5 R i := fun i hi => small_of (hr.right i hi)
  obtain ⟨K, hK⟩ : ∃ K, zs.length = K := ⟨_, rfl⟩
  rw [hK] at hk hc ⊢
  go_enter Tryz.func61, Tryz.ntmps61
  go_wp2_with (go_at_call 93; refine (checkFnC s a f pc K cc _ hs hk ha hf).mono ?_; rintro e w' ⟨rfl, rfl⟩; rw [hc])
  refine (hr.impl _ hL).mono ?_
  rintro e2 w2 ⟨⟨p, n, c, x', y', rfl, ⟨hj', rfl, rfl, rfl⟩ | ⟨hj', rfl, rfl, rfl⟩, ho⟩, hb⟩
  · rcases ho with ho | ⟨g, rfl, hg0, hg1, hfl⟩
    · omega
    go_wp2_with fail
    refine (partsC g _ c f R _ hg1 h64 h5 hfr hfl.rd).mono ?_
    rintro e3 w3 ⟨q, rfl, hb3, hq0, hq1, hP⟩
    have B3 : Below w'.heap.size w' w3 := hb.trans (hb3.mono hb.size)
    have hfn : FnIs (w3.alloc (.cells #[.slice (some ⟨g, 0, none⟩) n c, .slice (some ⟨q, 0, none⟩) n n, .int .i64 a, .int .i64 f, .slice pc zs.length cc] 133)) w3.heap.size g q n c n pc cc a f R (partI R n f) zs := by
      have b4 : Below w3.heap.size w3 (w3.alloc (.cells #[.slice (some ⟨g, 0, none⟩) n c, .slice (some ⟨q, 0, none⟩) n n, .int .i64 a, .int .i64 f, .slice pc zs.length cc] 133)) := (Below.refl _ _).alloc (Nat.le_refl _) _
      refine ⟨by simp, by simp, by simp, by simp, by simp, ?_, ?_, ?_, by simp, ?_, ?_⟩
      · exact (hfl.rd.below hb3 hg1).below b4 (Nat.lt_of_lt_of_le hg1 hb3.size)
      · exact hP.below b4 hq1
      · exact (hz.below B3).below b4
      · exact Nat.lt_of_lt_of_le (Nat.lt_of_lt_of_le hg1 hb3.size) b4.size
      · exact Nat.lt_of_lt_of_le hq1 b4.size
    rw [hK] at hfn
    clear hb hb3 hg0 hg1 hfl hP hq0 hq1
    have B4 : Hid (Below w'.heap.size w' (w3.alloc (.cells #[.slice (some ⟨g, 0, none⟩) n c, .slice (some ⟨q, 0, none⟩) n n, .int .i64 a, .int .i64 f, .slice pc K cc] 133))) := B3.alloc B3.size _
    clear B3
    go_wp2_with fail
    refine (firstC _ hfn h64 h5 hfr f0 f1 (fun i _ => rfl) (by omega) a0 a1 hsm x y hl).mono ?_
    rintro e5 w5 ⟨rfl, hb5⟩
    have B5 := B4.out.trans (hb5.mono B4.out.size)
    clear hfn B4 hb5
    go_wp2_with fail
    go_ret2
    exact ⟨rfl, B5⟩
  · omega
end Go.Proofs.YthihlbfmpkjhpaaGreatDoor

namespace Go.Proofs.YthihlbfmpkjhpaaGreatDoor
open Go Go.RowKit
set_option linter.unusedVariables false

theorem fn_at {C D : Int} {n : Nat} {S : Nat → SymD} (h : ∀ j, j < n → fltI C D S j = 0) (hC : 0 ≤ C) (hD : 0 ≤ D) {i : Nat} (hi : i < n) (hk : (S i).kd = 1) : 0 ≤ (S i).pl ∧ 1 ≤ (S i).sz ∧ (S i).pl + (S i).sz ≤ C := by
  obtain ⟨_, _, h3⟩ := flt_ok (h i hi)
  obtain ⟨⟨a, b⟩, _⟩ := cdU_bd (C := C) (D := D) i hC hD (fun j hj => h j (by omega))
  rcases h3 with ⟨_, h4, h5, h6⟩ | ⟨h4, _⟩
  · rw [h4]; exact ⟨a, h5, by omega⟩
  · omega
theorem pl_at {C D : Int} {n : Nat} {S : Nat → SymD} (h : ∀ j, j < n → fltI C D S j = 0) (hC : 0 ≤ C) (hD : 0 ≤ D) (hC1 : C ≤ 1024) (hD1 : D ≤ 256) {i : Nat} (hi : i < n) : 0 ≤ (S i).pl ∧ (S i).pl ≤ 1048576 := by
  obtain ⟨_, _, h3⟩ := flt_ok (h i hi)
  obtain ⟨⟨a, b⟩, c, d⟩ := cdU_bd (C := C) (D := D) i hC hD (fun j hj => h j (by omega))
  rcases h3 with ⟨_, h4, h5, h6⟩ | ⟨_, h4, h5, _⟩
  · omega
  · omega

set_option maxRecDepth 100000 in
set_option maxHeartbeats 8000000 in
theorem specImg (c s : ByteArray) (p : Option Addr) (n kk : Nat) (S : Nat → SymD) (L : Nat → Int × Int) (w : World) (hc : c.size ≤ 1048576) (hs : s.size ≤ 1048576) (hn : n ≤ 1048576) (hw : ∀ i, i < n → (S i).wf) (hp : SymsAt w p n S) (x y z : Int) (hl : ImgIs n c.size s.size S L x y z)
    (hL : n ≤ 16 ∧ c.size ≤ 1024 ∧ s.size ≤ 256 ∧ SymsIs n c.size s.size S 0 0 → ∀ i, i < n → (S i).kd = 1 → ∀ pc cc w, IntsAt w pc (entU S n) → Calls Tryz.prog 57 #[.string (fnT c S i), .int .i64 (plI' S i), .int .i64 (S i).fr, .slice pc (entU S n).length cc] w fun e w' => TwoN w.heap.size (L i).1 (L i).2 w e w') :
    Calls Tryz.prog 30 #[.agg #[.string c, .string s, .slice p n kk]] w fun e w' => e = .returned (.tuple #[.int .i64 x, .int .i64 y, .int .i64 z]) ∧ Below w.heap.size w w' := by
  have bA := grown1' w (.cells #[.string c, .string s, .slice p n kk] 30)
  by_cases h16 : 16 < n
  · obtain ⟨rfl, rfl, rfl⟩ : x = 0 ∧ y = 0 ∧ z = 6 := by
      cases hl with
      | many => exact ⟨rfl, rfl, rfl⟩
      | size a => omega
      | syms _ _ a => omega
      | fn _ a => omega
      | ok a => omega
    clear hl hL hw hp
    go_enter Tryz.func30, Tryz.ntmps30
    go_wp2_with fail
    refine bodyPost_ret (v := .tuple #[.int .i64 0, .int .i64 0, .int .i64 6]) (by simp [results, Tryz.results30, go_sem]) rfl ⟨rfl, bA⟩
  by_cases hCD : 1024 < c.size ∨ 256 < s.size
  · obtain ⟨rfl, rfl, rfl⟩ : x = 0 ∧ y = 0 ∧ z = 8 := by
      cases hl with
      | many a => omega
      | size a => exact ⟨rfl, rfl, rfl⟩
      | syms _ _ a b d => omega
      | fn _ a b d => omega
      | ok a b d => omega
    clear hl hL hw hp
    have key : 1024 < c.size ∨ (c.size ≤ 1024 ∧ 256 < s.size) := by omega
    clear hCD
    rcases key with k | ⟨k, l⟩
    all_goals
      go_enter Tryz.func30, Tryz.ntmps30
      go_wp2_with fail
      refine bodyPost_ret (v := .tuple #[.int .i64 0, .int .i64 0, .int .i64 8]) (by simp [results, Tryz.results30, go_sem]) rfl ⟨rfl, bA⟩
  obtain ⟨xs, ys, hsy⟩ := syms_ex n c.size s.size S
  have hC1 : c.size ≤ 1024 := by omega
  have hD1 : s.size ≤ 256 := by omega
  have hn1 : n ≤ 16 := by omega
  have i0 : (w.alloc (.cells #[.string c, .string s, .slice p n kk] 30)).cell? ⟨w.heap.size, 0, none⟩ = some (.string c) := by simp
  have i1 : (w.alloc (.cells #[.string c, .string s, .slice p n kk] 30)).cell? ⟨w.heap.size, 1, none⟩ = some (.string s) := by simp
  have i2 : (w.alloc (.cells #[.string c, .string s, .slice p n kk] 30)).cell? ⟨w.heap.size, 2, none⟩ = some (.slice p n kk) := by simp
  have hlt0 : w.heap.size < (w.alloc (.cells #[.string c, .string s, .slice p n kk] 30)).heap.size := by simp
  have hp1 := hp.below bA
  have sym := fun w' (h : SymsAt w' p n S) => specSyms c s p n kk S w' hn1 hC1 hD1 hw h xs ys hsy
  have ent := fun w' hb (h : SymsAt w' p n S) => specEnt p n kk S w' hn1 hb h
  go_enter Tryz.func30, Tryz.ntmps30
  go_wp2_with fail
  obtain ⟨W0, hW0⟩ : ∃ W0, w.alloc (.cells #[.string c, .string s, .slice p n kk] 30) = W0 := ⟨_, rfl⟩
  obtain ⟨X, hX⟩ : ∃ X, w.heap.size = X := ⟨_, rfl⟩
  have HA : Hid (Below X w W0) := by rw [← hX, ← hW0]; exact bA
  rw [hW0] at i0 i1 i2 hlt0 hp1 ⊢
  rw [hX] at i0 i1 i2 hlt0 ⊢
  clear hW0 hp bA h16 hCD
  refine (sym _ hp1).mono ?_
  rintro e w1 ⟨rfl, hb1⟩
  have j0 := (hb1.cell (p := ⟨X, 0, none⟩) hlt0).trans i0
  have j1 := (hb1.cell (p := ⟨X, 1, none⟩) hlt0).trans i1
  have j2 := (hb1.cell (p := ⟨X, 2, none⟩) hlt0).trans i2
  have hlt1 := Nat.lt_of_lt_of_le hlt0 hb1.size
  have hp2 := hp1.below hb1
  have H1 : Hid (Below X w w1) := HA.out.trans (hb1.mono (Nat.le_of_lt hlt0))
  clear hb1 i0 i1 i2 hp1 sym hlt0
  by_cases hys : ys = 0
  · subst hys
    have hall := hsy.all
    obtain rfl : xs = 0 := hsy.zero
    have hLn := hL ⟨hn1, hC1, hD1, hsy⟩
    obtain ⟨zs, hzs⟩ : ∃ zs, entU S n = zs := ⟨_, rfl⟩
    have hent := ent _ (fun i hi => pl_at hall (by omega) (by omega) (by omega) (by omega) hi) hp2
    rw [hzs] at hLn hent
    obtain ⟨N, hN⟩ : ∃ N, zs.length = N := ⟨_, rfl⟩
    have HLN : Hid (∀ i, i < n → (S i).kd = 1 → ∀ pc cc w, IntsAt w pc zs → Calls Tryz.prog 57 #[.string (fnT c S i), .int .i64 (plI' S i), .int .i64 (S i).fr, .slice pc N cc] w fun e w' => TwoN w.heap.size (L i).1 (L i).2 w e w') := by rw [← hN]; exact hLn
    have HALL : Hid (∀ j, j < n → fltI c.size s.size S j = 0) := hall
    have HW : Hid (∀ i, i < n → (S i).wf) := hw
    have hfn : ∀ m, m < n → (S m).kd = 1 → (∀ j, j < m → (S j).kd = 1 → (L j).2 = 0) → (L m).2 ≠ 0 → x = ((m : Nat) : Int) ∧ y = (L m).1 ∧ z = (L m).2 := by
      intro m hm hk hb hne
      cases hl with
      | many a => omega
      | size a b => omega
      | syms x' y' a b d hs' hy => exact absurd (hs'.uniq hsy).2 hy
      | fn k a b d hs' hk' hf' hb' hn' =>
        by_cases h1 : k < m
        · exact absurd (hb k h1 hf') hn'
        · by_cases h2 : m < k
          · exact absurd (hb' m h2 hk) hne
          · obtain rfl : k = m := by omega
            exact ⟨rfl, rfl, rfl⟩
      | ok a b d hs' hb' => exact absurd (hb' m hm hk) hne
    have hfin : (∀ j, j < n → (S j).kd = 1 → (L j).2 = 0) → x = 0 ∧ y = 0 ∧ z = 0 := by
      intro hb
      cases hl with
      | many a => omega
      | size a b => omega
      | syms x' y' a b d hs' hy => exact absurd (hs'.uniq hsy).2 hy
      | fn k a b d hs' hk' hf' hb' hn' => exact absurd (hb k hk' hf') hn'
      | ok => exact ⟨rfl, rfl, rfl⟩
    have HFN : Hid (∀ m, m < n → (S m).kd = 1 → (∀ j, j < m → (S j).kd = 1 → (L j).2 = 0) → (L m).2 ≠ 0 → x = ((m : Nat) : Int) ∧ y = (L m).1 ∧ z = (L m).2) := hfn
    have HFIN : Hid ((∀ j, j < n → (S j).kd = 1 → (L j).2 = 0) → x = 0 ∧ y = 0 ∧ z = 0) := hfin
    have HENT : Hid (∀ _ : Unit, Calls Tryz.prog 56 #[.slice p n kk] w1 fun e w' => (∃ q d, e = .returned (.slice q zs.length d) ∧ OwnI w' w1.heap.size q zs.length (fun i => zs.getD i 0)) ∧ Below w1.heap.size w1 w') := fun _ => hent
    clear hLn hall hw hl hL hfn hfin hsy ent hent
    go_wp2_with fail
    refine (HENT.out ()).mono ?_
    rintro e w2 ⟨⟨q, d, rfl, ho⟩, hb2⟩
    have hz : IntsAt w2 q zs := ho.row
    have k0 := (hb2.cell (p := ⟨X, 0, none⟩) hlt1).trans j0
    have k1 := (hb2.cell (p := ⟨X, 1, none⟩) hlt1).trans j1
    have k2 := (hb2.cell (p := ⟨X, 2, none⟩) hlt1).trans j2
    have hlt2 := Nat.lt_of_lt_of_le hlt1 hb2.size
    have hp3 := hp2.below hb2
    have H2 : Hid (Below X w w2) := H1.out.trans (hb2.mono (Nat.le_of_lt hlt1))
    rw [hN]
    clear hb2 j0 j1 j2 hp2 H1 HENT ho hzs hN
    go_wp2_with fail
    go_loopw [8] (fun i wr => ∃ m : Nat, m ≤ n ∧ i = .int .i64 m ∧ (∀ j, j < m → (S j).kd = 1 → (L j).2 = 0) ∧ Below w2.heap.size w2 wr) (fun i _ => n - (intOf i).toNat)
    case atStart => exact ⟨0, Nat.zero_le _, rfl, fun j hj => absurd hj (Nat.not_lt_zero _), Below.refl _ _⟩
    case round =>
      obtain ⟨m, hm, rfl, hok, hB⟩ := hrel
      have l0 := (hB.cell (p := ⟨X, 0, none⟩) hlt2).trans k0
      have l2 := (hB.cell (p := ⟨X, 2, none⟩) hlt2).trans k2
      have hsz := hB.size
      by_cases hlt : m < n
      · rcases hp3 with hp3 | ⟨b, o, rfl, hb, hp3⟩
        · omega
        obtain ⟨x0, x1, x2, x3, x4⟩ := (hp3.below hB hb).sym hlt
        have hfa := fun hk => fn_at HALL.out (by omega) (by omega) hlt hk
        have hli := HLN.out m hlt
        unfold fnT plI' at hli
        obtain ⟨nm, e0⟩ : ∃ s, (S m).nm = s := ⟨_, rfl⟩
        obtain ⟨kd, e1⟩ : ∃ s, (S m).kd = s := ⟨_, rfl⟩
        obtain ⟨pl, e2⟩ : ∃ s, (S m).pl = s := ⟨_, rfl⟩
        obtain ⟨sz, e3⟩ : ∃ s, (S m).sz = s := ⟨_, rfl⟩
        obtain ⟨fr, e4⟩ : ∃ s, (S m).fr = s := ⟨_, rfl⟩
        rw [e0] at x0
        rw [e1] at x1 hfa hli
        rw [e2] at x2 hfa hli
        rw [e3] at x3 hfa hli
        rw [e4] at x4 hli
        have E1 : Hid (_ = kd) := e1
        have HOK : Hid (∀ j, j < m → (S j).kd = 1 → (L j).2 = 0) := hok
        have bX := grown1' wr (.cells #[.string nm, .int .i64 kd, .int .i64 pl, .int .i64 sz, .int .i64 fr] 76)
        have hB1 := hB.trans (bX.mono hsz)
        by_cases h1 : kd = 1
        · subst h1
          obtain ⟨f0, f1, f2⟩ := hfa rfl
          rw [if_pos rfl] at hli
          have hli' := hli rfl
          obtain ⟨pn, rfl⟩ := Int.eq_ofNat_of_zero_le f0
          obtain ⟨sn, rfl⟩ := Int.eq_ofNat_of_zero_le (show 0 ≤ sz by omega)
          have ex : ((pn : Int) + (sn : Int)).toNat = pn + sn := by omega
          have ex0 : ((pn : Int)).toNat = pn := by omega
          rw [ex, ex0] at hli'
          obtain ⟨r1, g1⟩ : ∃ r, (L m).1 = r := ⟨_, rfl⟩
          obtain ⟨r2, g2⟩ : ∃ r, (L m).2 = r := ⟨_, rfl⟩
          rw [g1, g2] at hli'
          have HLI : Hid (∀ pc cc w, IntsAt w pc zs → Calls Tryz.prog 57 #[.string (c.extract pn (pn + sn)), .int .i64 (4096 + (pn : Int)), .int .i64 fr, .slice pc N cc] w fun e w' => TwoN w.heap.size r1 r2 w e w') := hli'
          have hpl := fun w' => placeSpec nm 1 pn sn fr w' (by omega) (by omega)
          simp only [if_true] at hpl
          have HPL : Hid (∀ w' : World, _) := hpl
          have G1 : Hid (_ = r1) := g1
          have G2 : Hid (_ = r2) := g2
          have z0 : (wr.alloc (.cells #[.string nm, .int .i64 1, .int .i64 pn, .int .i64 sn, .int .i64 fr] 76)).cell? ⟨wr.heap.size, 0, none⟩ = some (.string nm) := by simp
          have z1 : (wr.alloc (.cells #[.string nm, .int .i64 1, .int .i64 pn, .int .i64 sn, .int .i64 fr] 76)).cell? ⟨wr.heap.size, 1, none⟩ = some (.int .i64 1) := by simp
          have z2 : (wr.alloc (.cells #[.string nm, .int .i64 1, .int .i64 pn, .int .i64 sn, .int .i64 fr] 76)).cell? ⟨wr.heap.size, 2, none⟩ = some (.int .i64 pn) := by simp
          have z3 : (wr.alloc (.cells #[.string nm, .int .i64 1, .int .i64 pn, .int .i64 sn, .int .i64 fr] 76)).cell? ⟨wr.heap.size, 3, none⟩ = some (.int .i64 sn) := by simp
          have z4 : (wr.alloc (.cells #[.string nm, .int .i64 1, .int .i64 pn, .int .i64 sn, .int .i64 fr] 76)).cell? ⟨wr.heap.size, 4, none⟩ = some (.int .i64 fr) := by simp
          have zl : wr.heap.size < (wr.alloc (.cells #[.string nm, .int .i64 1, .int .i64 pn, .int .i64 sn, .int .i64 fr] 76)).heap.size := by simp
          have y0 := (bX.cell (p := ⟨X, 0, none⟩) (Nat.lt_of_lt_of_le hlt2 hsz)).trans l0
          have hz1 := (hz.below hB).below bX
          clear e0 e1 e2 e3 e4 g1 g2 hli hli' hpl hfa hok bX
          go_wp2_with fail
          obtain ⟨W1, hW1⟩ : ∃ W1, (wr.alloc (.cells #[.string nm, .int .i64 1, .int .i64 pn, .int .i64 sn, .int .i64 fr] 76)) = W1 := ⟨_, rfl⟩
          obtain ⟨Y, hY⟩ : ∃ Y, wr.heap.size = Y := ⟨_, rfl⟩
          have hX1 : X < W1.heap.size := by rw [← hW1]; have := Nat.lt_of_lt_of_le hlt2 hsz; simp; omega
          rw [hW1] at z0 z1 z2 z3 z4 zl y0 hz1 hB1 ⊢
          rw [hY] at z0 z1 z2 z3 z4 zl ⊢
          have HB1 : Hid (Below w2.heap.size w2 W1) := hB1
          have q1 : (0 : Int) ≤ (pn : Int) := by omega
          have q2 : (pn : Int) ≤ (pn : Int) + (sn : Int) := by omega
          have q3 : (pn : Int) + (sn : Int) ≤ (c.size : Int) := f2
          have q4 : IntKind.i64.wrap ((pn : Int) + (sn : Int)) = (pn : Int) + (sn : Int) := by rw [IntKind.wrap_i64]; omega
          have s1 := hB1.size
          clear hB1 hW1 hY hB x0 x1 x2 x3 x4 l0 l2 hsz hp3 hz
          go_region_held3 (fun w' => w'.cell? ⟨X, 0, none⟩ = some (.string c) ∧ w'.cell? ⟨Y, 0, none⟩ = some (.string nm) ∧ w'.cell? ⟨Y, 1, none⟩ = some (.int .i64 1) ∧ w'.cell? ⟨Y, 2, none⟩ = some (.int .i64 pn) ∧ w'.cell? ⟨Y, 3, none⟩ = some (.int .i64 sn) ∧ w'.cell? ⟨Y, 4, none⟩ = some (.int .i64 fr)) (go_keep) (first | (go_at_call 51; refine (HPL.out _).mono ?_; rintro e w3 ⟨rfl, hb3⟩; have B3 : Below W1.heap.size W1 w3 := (by first | exact hb3 | exact (Below.refl W1.heap.size W1).drew.trans hb3); have a0 := (B3.cell (p := ⟨X, 0, none⟩) hX1).trans y0; have a1 := (B3.cell (p := ⟨Y, 0, none⟩) zl).trans z0; have a2 := (B3.cell (p := ⟨Y, 1, none⟩) zl).trans z1; have a3 := (B3.cell (p := ⟨Y, 2, none⟩) zl).trans z2; have a4 := (B3.cell (p := ⟨Y, 3, none⟩) zl).trans z3; have a5 := (B3.cell (p := ⟨Y, 4, none⟩) zl).trans z4; have hz3 := hz1.below B3; have s3 := B3.size) | (go_at_call 57; refine (HLI.out _ _ _ hz3).mono ?_; rintro e w4 ⟨rfl, hb4⟩; have B4 : Below W1.heap.size W1 w4 := B3.trans (hb4.mono s3); have b0 := (B4.cell (p := ⟨X, 0, none⟩) hX1).trans y0; have b1 := (B4.cell (p := ⟨Y, 0, none⟩) zl).trans z0; have b2 := (B4.cell (p := ⟨Y, 1, none⟩) zl).trans z1; have b3 := (B4.cell (p := ⟨Y, 2, none⟩) zl).trans z2; have b4 := (B4.cell (p := ⟨Y, 3, none⟩) zl).trans z3; have b5 := (B4.cell (p := ⟨Y, 4, none⟩) zl).trans z4))
          have HB4 : Hid (Below w2.heap.size w2 w4) := HB1.out.trans (B4.mono HB1.out.size)
          clear a0 a1 a2 a3 a4 a5 b0 b1 b2 b3 b4 b5 hz3 hb3 hb4 B3 B4 s3 y0 z0 z1 z2 z3 z4 hz1
          by_cases hr : r2 = 0
          · subst hr
            go_wp2_with fail
            go_roundw
            case rel => exact ⟨m + 1, by omega, by go_num, fun j hj hk => by
              rcases Nat.lt_succ_iff_lt_or_eq.1 hj with h' | rfl
              · exact HOK.out j h' hk
              · exact G2.out, HB4.out⟩
            case measure => simp [intOf]; omega
          · obtain ⟨rfl, e1, e2⟩ := HFN.out m hlt E1.out HOK.out (by rw [G2.out]; exact hr)
            rw [G1.out] at e1
            rw [G2.out] at e2
            subst e1 e2
            have hrb : (z == 0) = false := by simpa using hr
            go_wp2_with fail
            refine bodyPost_ret (v := .tuple #[.int .i64 m, .int .i64 y, .int .i64 z]) (by simp [results, Tryz.results30, go_sem]) rfl ⟨rfl, by first | exact H2.out.trans (HB4.out.mono (Nat.le_of_lt hlt2)) | (rw [hX]; exact H2.out.trans (HB4.out.mono (Nat.le_of_lt hlt2)))⟩
        · have hb1 : (kd == 1) = false := by simpa using h1
          clear e0 e1 e2 e3 e4 hli hfa hok
          go_wp2_with fail
          go_roundw
          case rel => exact ⟨m + 1, by omega, by go_num, fun j hj hk => by
            rcases Nat.lt_succ_iff_lt_or_eq.1 hj with h' | rfl
            · exact HOK.out j h' hk
            · exact absurd (E1.out.symm.trans hk) h1, hB1⟩
          case measure => simp [intOf]; omega
      · obtain rfl : m = n := by omega
        obtain ⟨rfl, rfl, rfl⟩ := HFIN.out hok
        clear hok
        go_wp2_with fail
        refine bodyPost_ret (v := .tuple #[.int .i64 0, .int .i64 0, .int .i64 0]) (by simp [results, Tryz.results30, go_sem]) rfl ⟨rfl, by first | exact H2.out.trans (hB.mono (Nat.le_of_lt hlt2)) | (rw [hX]; exact H2.out.trans (hB.mono (Nat.le_of_lt hlt2)))⟩
  · obtain ⟨rfl, rfl, rfl⟩ : x = xs ∧ y = 0 ∧ z = ys := by
      cases hl with
      | many a => omega
      | size a b => omega
      | syms x' y' a b d hs' hy => exact ⟨(hs'.uniq hsy).1, rfl, (hs'.uniq hsy).2⟩
      | fn k a b d hs' => exact absurd (hs'.uniq hsy).2.symm hys
      | ok a b d hs' => exact absurd (hs'.uniq hsy).2.symm hys
    have hyb : (z == 0) = false := by simpa using hys
    clear hl hL hw hsy ent
    go_wp2_with fail
    refine bodyPost_ret (v := .tuple #[.int .i64 x, .int .i64 0, .int .i64 z]) (by simp [results, Tryz.results30, go_sem]) rfl ⟨rfl, by rw [hX]; exact H1.out⟩
end Go.Proofs.YthihlbfmpkjhpaaGreatDoor

namespace Go.Proofs.YthihlbfmpkjhpaaGreatDoor
open Go Go.RowKit
set_option linter.unusedVariables false

set_option maxHeartbeats 1000000 in
/-- Is a number among others? -/
theorem hasIntC (p : Option Addr) (c : Nat) (zs : List Int) (x : Int) (w : World) (hn : zs.length ≤ 1048576) (hp : IntsAt w p zs) :
    Calls Tryz.prog 109 #[.slice p zs.length c, .int .i64 x] w fun e w' => e = .returned (.bool (hasB zs x)) ∧ w' = w := by
  obtain ⟨n, hN⟩ : ∃ n, zs.length = n := ⟨_, rfl⟩
  rw [hN] at hn ⊢
  go_enter Tryz.func109, Tryz.ntmps109
  go_wp2
  go_loop [5] (fun i => ∃ k : Nat, k ≤ n ∧ i = .int .i64 k ∧ ∀ j, j < k → zs.getD j 0 ≠ x) (fun i => n - (intOf i).toNat)
  case atStart => exact ⟨0, Nat.zero_le _, rfl, fun j hj => absurd hj (Nat.not_lt_zero _)⟩
  case round =>
    obtain ⟨k, hk, rfl, hno⟩ := hrel
    by_cases hlt : k < n
    · rcases hp with hp | ⟨b, o, rfl, hb, hp⟩
      · omega
      have hx : w.cell? ⟨b, o + k, none⟩ = some (.int .i64 (zs.getD k 0)) := hp k (by omega)
      by_cases e : zs.getD k 0 = x
      · have hx' : w.cell? ⟨b, o + k, none⟩ = some (.int .i64 x) := by rw [← e]; exact hx
        have hm : x ∈ zs := by
          rw [← e]
          have : zs.getD k 0 = zs[k]'(by omega) := by simp [List.getD, hN, hlt]
          rw [this]
          exact List.getElem_mem _
        have hB : hasB zs x = true := by unfold hasB; simpa using hm
        have HB : Hid (hasB zs x = true) := hB
        clear hp hx hm hB
        go_wp2
        go_ret
        exact ⟨by rw [HB.out]; rfl, rfl⟩
      · have e' : ¬ (x = zs.getD k 0) := fun h => e h.symm
        obtain ⟨y, hy⟩ : ∃ y, zs.getD k 0 = y := ⟨_, rfl⟩
        rw [hy] at hx e e'
        have HY : Hid (zs.getD k 0 = y) := hy
        clear hp hy
        go_wp2
        go_round
        case rel => exact ⟨k + 1, by omega, by go_num, fun j hj => by
          rcases Nat.lt_succ_iff_lt_or_eq.1 hj with h | rfl
          · exact hno j h
          · rw [HY.out]; exact e⟩
        case measure => simp [intOf]; omega
    · obtain rfl : k = n := by omega
      have hB : hasB zs x = false := by
        unfold hasB
        rw [← Bool.not_eq_true]
        intro h
        obtain ⟨j, hj, e⟩ := List.mem_iff_getElem.1 (by simpa using h : x ∈ zs)
        exact absurd (by simp [List.getD, hj, e]) (hno j (by omega))
      have HB : Hid (hasB zs x = false) := hB
      clear hB
      go_wp2
      go_ret
      exact ⟨by rw [HB.out]; rfl, rfl⟩

/-- Three instructions held against an epilogue's. -/
def e3 (R : Nat → Int) (f : Int) (i k : Nat) : Bool := sm5 (R ((i + k) * 5)) (R ((i + k) * 5 + 1)) (R ((i + k) * 5 + 2)) (R ((i + k) * 5 + 3)) (R ((i + k) * 5 + 4)) (epiR f (k * 5)) (epiR f (k * 5 + 1)) (epiR f (k * 5 + 2)) (epiR f (k * 5 + 3)) (epiR f (k * 5 + 4))
theorem e3_epB {R : Nat → Int} {N : Nat} {f : Int} {i : Nat} (h2 : 2 ≤ i) (hN : i + 3 ≤ N) : epB R N f i = (e3 R f i 0 && (e3 R f i 1 && e3 R f i 2)) := by
  rw [Bool.eq_iff_iff, epB_iff, Bool.and_eq_true, Bool.and_eq_true]
  have key : ∀ k, e3 R f i k = true ↔ ∀ j, j < 5 → R ((i + k) * 5 + j) = epiR f (k * 5 + j) := fun k => by
    unfold e3
    rw [sm5_iff]
    constructor
    · rintro ⟨a0, a1, a2, a3, a4⟩ j hj
      match j, hj with
      | 0, _ => exact a0
      | 1, _ => exact a1
      | 2, _ => exact a2
      | 3, _ => exact a3
      | 4, _ => exact a4
    · intro a
      exact ⟨a 0 (by omega), a 1 (by omega), a 2 (by omega), a 3 (by omega), a 4 (by omega)⟩
  rw [key, key, key]
  constructor
  · rintro ⟨_, h⟩
    refine ⟨fun j hj => ?_, fun j hj => ?_, fun j hj => ?_⟩
    · have := h j (by omega); simpa using this
    · have := h (5 + j) (by omega); rw [show (i + 1) * 5 + j = i * 5 + (5 + j) from by omega, show 1 * 5 + j = 5 + j from by omega]; exact this
    · have := h (10 + j) (by omega); rw [show (i + 2) * 5 + j = i * 5 + (10 + j) from by omega, show 2 * 5 + j = 10 + j from by omega]; exact this
  · rintro ⟨h0, h1, h2'⟩
    refine ⟨⟨h2, hN⟩, fun j hj => ?_⟩
    by_cases a : j < 5
    · have := h0 j a; simpa using this
    · by_cases b : j < 10
      · have := h1 (j - 5) (by omega)
        rwa [show (i + 1) * 5 + (j - 5) = i * 5 + j from by omega, show 1 * 5 + (j - 5) = j from by omega] at this
      · have := h2' (j - 10) (by omega)
        rwa [show (i + 2) * 5 + (j - 10) = i * 5 + j from by omega, show 2 * 5 + (j - 10) = j from by omega] at this

theorem specEndsLow (g N c i : Nat) (f : Int) (w : World) (hf : frB f = true) (hi : i < 2) :
    Calls Tryz.prog 108 #[.slice (some ⟨g, 0, none⟩) N c, .int .i64 i, .int .i64 f] w fun e w' => e = .returned (.bool false) ∧ Below w.heap.size w w' := by
  have hi' : decide ((2 : Int) ≤ (i : Int)) = false := by rw [decide_eq_false_iff_not]; omega
  go_enter Tryz.func108, Tryz.ntmps108
  go_wp2_with fail
  refine (epiSpec0 f _ hf).mono ?_
  rintro e w1 ⟨G, rfl, hb, hG0, hG1, hfl⟩
  clear hfl
  go_wp2_with fail
  go_region
  go_wp2_with fail
  go_ret
  exact ⟨rfl, hb.drew⟩
theorem specEndsHigh (g N c i : Nat) (f : Int) (w : World) (hf : frB f = true) (hN : N ≤ 64) (hi : i < 1000) (h2 : 2 ≤ i) (h3 : N < i + 3) :
    Calls Tryz.prog 108 #[.slice (some ⟨g, 0, none⟩) N c, .int .i64 i, .int .i64 f] w fun e w' => e = .returned (.bool false) ∧ Below w.heap.size w w' := by
  have h4 : decide ((i : Int) + 2 < (N : Int)) = false := by rw [decide_eq_false_iff_not]; omega
  have hi' : decide ((2 : Int) ≤ (i : Int)) = true := by rw [decide_eq_true_eq]; omega
  go_enter Tryz.func108, Tryz.ntmps108
  go_wp2_with fail
  refine (epiSpec0 f _ hf).mono ?_
  rintro e w1 ⟨G, rfl, hb, hG0, hG1, hfl⟩
  clear hfl
  go_wp2_with fail
  go_region
  go_wp2_with fail
  go_ret
  exact ⟨rfl, hb.drew⟩
set_option maxRecDepth 100000 in
set_option maxHeartbeats 4000000 in
theorem specEndsMid (g N c i : Nat) (f : Int) (R : Nat → Int) (w : World) (hg : g < w.heap.size) (hf : frB f = true) (hN : N ≤ 64) (h2 : 2 ≤ i) (h3 : i + 3 ≤ N) (hl : Rdb w g 0 (N * 5) R) :
    Calls Tryz.prog 108 #[.slice (some ⟨g, 0, none⟩) N c, .int .i64 i, .int .i64 f] w fun e w' => e = .returned (.bool (e3 R f i 0 && (e3 R f i 1 && e3 R f i 2))) ∧ Below w.heap.size w w' := by
  have h4 : decide ((i : Int) + 2 < (N : Int)) = true := by rw [decide_eq_true_eq]; omega
  have hi' : decide ((2 : Int) ≤ (i : Int)) = true := by rw [decide_eq_true_eq]; omega
  have hi0 : i < N := by omega
  have hi1 : i + 1 < N := by omega
  have hi2 : i + 2 < N := by omega
  have q0 := fun w => eqlIns (R (i * 5)) (R (i * 5 + 1)) (R (i * 5 + 2)) (R (i * 5 + 3)) (R (i * 5 + 4)) (epiR f 0) (epiR f 1) (epiR f 2) (epiR f 3) (epiR f 4) w
  have q1 := fun w => eqlIns (R ((i + 1) * 5)) (R ((i + 1) * 5 + 1)) (R ((i + 1) * 5 + 2)) (R ((i + 1) * 5 + 3)) (R ((i + 1) * 5 + 4)) (epiR f 5) (epiR f 6) (epiR f 7) (epiR f 8) (epiR f 9) w
  have q2 := fun w => eqlIns (R ((i + 2) * 5)) (R ((i + 2) * 5 + 1)) (R ((i + 2) * 5 + 2)) (R ((i + 2) * 5 + 3)) (R ((i + 2) * 5 + 4)) (epiR f 10) (epiR f 11) (epiR f 12) (epiR f 13) (epiR f 14) w
  have e0 : e3 R f i 0 = sm5 (R (i * 5)) (R (i * 5 + 1)) (R (i * 5 + 2)) (R (i * 5 + 3)) (R (i * 5 + 4)) (epiR f 0) (epiR f 1) (epiR f 2) (epiR f 3) (epiR f 4) := rfl
  have e1 : e3 R f i 1 = sm5 (R ((i + 1) * 5)) (R ((i + 1) * 5 + 1)) (R ((i + 1) * 5 + 2)) (R ((i + 1) * 5 + 3)) (R ((i + 1) * 5 + 4)) (epiR f 5) (epiR f 6) (epiR f 7) (epiR f 8) (epiR f 9) := rfl
  have e2 : e3 R f i 2 = sm5 (R ((i + 2) * 5)) (R ((i + 2) * 5 + 1)) (R ((i + 2) * 5 + 2)) (R ((i + 2) * 5 + 3)) (R ((i + 2) * 5 + 4)) (epiR f 10) (epiR f 11) (epiR f 12) (epiR f 13) (epiR f 14) := rfl
  rw [← e0] at q0
  rw [← e1] at q1
  rw [← e2] at q2
  obtain ⟨b0, c0⟩ : ∃ b, e3 R f i 0 = b := ⟨_, rfl⟩
  obtain ⟨b1, c1⟩ : ∃ b, e3 R f i 1 = b := ⟨_, rfl⟩
  obtain ⟨b2, c2⟩ : ∃ b, e3 R f i 2 = b := ⟨_, rfl⟩
  rw [c0] at q0
  rw [c1] at q1
  rw [c2] at q2
  rw [c0, c1, c2]
  clear e0 e1 e2 c0 c1 c2
  have x0 := hl.five hi0
  have x1 := hl.five hi1
  have x2 := hl.five hi2
  obtain ⟨x00, x01, x02, x03, x04⟩ := x0
  obtain ⟨x10, x11, x12, x13, x14⟩ := x1
  obtain ⟨x20, x21, x22, x23, x24⟩ := x2
  simp only [Nat.zero_add] at x00 x01 x02 x03 x04 x10 x11 x12 x13 x14 x20 x21 x22 x23 x24
  have key : ∀ r, (b0 && (b1 && b2)) = r → Calls Tryz.prog 108 #[.slice (some ⟨g, 0, none⟩) N c, .int .i64 i, .int .i64 f] w fun e w' => e = .returned (.bool r) ∧ Below w.heap.size w w' := by
    intro r hr
    go_enter Tryz.func108, Tryz.ntmps108
    go_wp2_with fail
    refine (epiSpec0 f _ hf).mono ?_
    rintro e w1 ⟨G, rfl, hb, hG0, hG1, hfl⟩
    have hgu := guardIns
    have x00 := (hb.cell (p := ⟨g, i * 5, none⟩) hg).trans x00
    have x01 := (hb.cell (p := ⟨g, i * 5 + 1, none⟩) hg).trans x01
    have x02 := (hb.cell (p := ⟨g, i * 5 + 2, none⟩) hg).trans x02
    have x03 := (hb.cell (p := ⟨g, i * 5 + 3, none⟩) hg).trans x03
    have x04 := (hb.cell (p := ⟨g, i * 5 + 4, none⟩) hg).trans x04
    have x10 := (hb.cell (p := ⟨g, (i + 1) * 5, none⟩) hg).trans x10
    have x11 := (hb.cell (p := ⟨g, (i + 1) * 5 + 1, none⟩) hg).trans x11
    have x12 := (hb.cell (p := ⟨g, (i + 1) * 5 + 2, none⟩) hg).trans x12
    have x13 := (hb.cell (p := ⟨g, (i + 1) * 5 + 3, none⟩) hg).trans x13
    have x14 := (hb.cell (p := ⟨g, (i + 1) * 5 + 4, none⟩) hg).trans x14
    have x20 := (hb.cell (p := ⟨g, (i + 2) * 5, none⟩) hg).trans x20
    have x21 := (hb.cell (p := ⟨g, (i + 2) * 5 + 1, none⟩) hg).trans x21
    have x22 := (hb.cell (p := ⟨g, (i + 2) * 5 + 2, none⟩) hg).trans x22
    have x23 := (hb.cell (p := ⟨g, (i + 2) * 5 + 3, none⟩) hg).trans x23
    have x24 := (hb.cell (p := ⟨g, (i + 2) * 5 + 4, none⟩) hg).trans x24
    have y0 : w1.cell? ⟨G, 0, none⟩ = some (.int .i64 (epiR f 0)) := (congrArg (fun o => w1.cell? ⟨G, o, none⟩) (Nat.zero_add 0).symm).trans (hfl 0 (by omega)).1
    have y1 : w1.cell? ⟨G, 1, none⟩ = some (.int .i64 (epiR f 1)) := (congrArg (fun o => w1.cell? ⟨G, o, none⟩) (Nat.zero_add 1).symm).trans (hfl 1 (by omega)).1
    have y2 : w1.cell? ⟨G, 2, none⟩ = some (.int .i64 (epiR f 2)) := (congrArg (fun o => w1.cell? ⟨G, o, none⟩) (Nat.zero_add 2).symm).trans (hfl 2 (by omega)).1
    have y3 : w1.cell? ⟨G, 3, none⟩ = some (.int .i64 (epiR f 3)) := (congrArg (fun o => w1.cell? ⟨G, o, none⟩) (Nat.zero_add 3).symm).trans (hfl 3 (by omega)).1
    have y4 : w1.cell? ⟨G, 4, none⟩ = some (.int .i64 (epiR f 4)) := (congrArg (fun o => w1.cell? ⟨G, o, none⟩) (Nat.zero_add 4).symm).trans (hfl 4 (by omega)).1
    have y5 : w1.cell? ⟨G, 5, none⟩ = some (.int .i64 (epiR f 5)) := (congrArg (fun o => w1.cell? ⟨G, o, none⟩) (Nat.zero_add 5).symm).trans (hfl 5 (by omega)).1
    have y6 : w1.cell? ⟨G, 6, none⟩ = some (.int .i64 (epiR f 6)) := (congrArg (fun o => w1.cell? ⟨G, o, none⟩) (Nat.zero_add 6).symm).trans (hfl 6 (by omega)).1
    have y7 : w1.cell? ⟨G, 7, none⟩ = some (.int .i64 (epiR f 7)) := (congrArg (fun o => w1.cell? ⟨G, o, none⟩) (Nat.zero_add 7).symm).trans (hfl 7 (by omega)).1
    have y8 : w1.cell? ⟨G, 8, none⟩ = some (.int .i64 (epiR f 8)) := (congrArg (fun o => w1.cell? ⟨G, o, none⟩) (Nat.zero_add 8).symm).trans (hfl 8 (by omega)).1
    have y9 : w1.cell? ⟨G, 9, none⟩ = some (.int .i64 (epiR f 9)) := (congrArg (fun o => w1.cell? ⟨G, o, none⟩) (Nat.zero_add 9).symm).trans (hfl 9 (by omega)).1
    have y10 : w1.cell? ⟨G, 10, none⟩ = some (.int .i64 (epiR f 10)) := (congrArg (fun o => w1.cell? ⟨G, o, none⟩) (Nat.zero_add 10).symm).trans (hfl 10 (by omega)).1
    have y11 : w1.cell? ⟨G, 11, none⟩ = some (.int .i64 (epiR f 11)) := (congrArg (fun o => w1.cell? ⟨G, o, none⟩) (Nat.zero_add 11).symm).trans (hfl 11 (by omega)).1
    have y12 : w1.cell? ⟨G, 12, none⟩ = some (.int .i64 (epiR f 12)) := (congrArg (fun o => w1.cell? ⟨G, o, none⟩) (Nat.zero_add 12).symm).trans (hfl 12 (by omega)).1
    have y13 : w1.cell? ⟨G, 13, none⟩ = some (.int .i64 (epiR f 13)) := (congrArg (fun o => w1.cell? ⟨G, o, none⟩) (Nat.zero_add 13).symm).trans (hfl 13 (by omega)).1
    have y14 : w1.cell? ⟨G, 14, none⟩ = some (.int .i64 (epiR f 14)) := (congrArg (fun o => w1.cell? ⟨G, o, none⟩) (Nat.zero_add 14).symm).trans (hfl 14 (by omega)).1
    clear hfl hl
    cases b0
    · subst hr
      go_wp2_with fail
      go_region
      go_wp2_with fail
      go_ret
      exact ⟨rfl, hb.drew⟩
    · cases b1
      · subst hr
        go_wp2_with fail
        go_region
        go_wp2_with fail
        go_ret
        exact ⟨rfl, hb.drew⟩
      · cases b2
        · subst hr
          go_wp2_with fail
          go_region
          go_wp2_with fail
          go_ret
          exact ⟨rfl, hb.drew⟩
        · subst hr
          go_wp2_with fail
          go_region
          go_wp2_with fail
          go_ret
          exact ⟨rfl, hb.drew⟩
  exact key _ rfl
theorem specEnds (g N c i : Nat) (f : Int) (R : Nat → Int) (w : World) (hg : g < w.heap.size) (hf : frB f = true) (hN : N ≤ 64) (hi : i < 1000) (hl : Rdb w g 0 (N * 5) R) :
    Calls Tryz.prog 108 #[.slice (some ⟨g, 0, none⟩) N c, .int .i64 i, .int .i64 f] w fun e w' => e = .returned (.bool (epB R N f i)) ∧ Below w.heap.size w w' := by
  by_cases h2 : 2 ≤ i
  · by_cases h3 : i + 3 ≤ N
    · rw [e3_epB h2 h3]
      exact specEndsMid g N c i f R w hg hf hN h2 h3 hl
    · rw [epB_low (.inr (by omega))]
      exact specEndsHigh g N c i f w hf hN hi h2 (by omega)
  · rw [epB_low (.inl (by omega))]
    exact specEndsLow g N c i f w hf (by omega)
end Go.Proofs.YthihlbfmpkjhpaaGreatDoor

namespace Go.Proofs.YthihlbfmpkjhpaaGreatDoor
open Go Go.RowKit
set_option linter.unusedVariables false

set_option maxRecDepth 100000 in
set_option maxHeartbeats 4000000 in
theorem specGoes (g N c i : Nat) (im f : Int) (R : Nat → Int) (w : World) (hg : g < w.heap.size) (hf : frB f = true) (hN : N ≤ 64) (hi : i < 1000) (hl : Rdb w g 0 (N * 5) R) (hi0 : -2147483648 ≤ im) (hi1 : im ≤ 2147483647) :
    Calls Tryz.prog 110 #[.slice (some ⟨g, 0, none⟩) N c, .int .i64 i, .int .i64 im, .int .i64 f] w fun e w' => e = .returned (.bool (goB R N f i im)) ∧ Below w.heap.size w w' := by
  by_cases hm : im % 4 = 0
  · obtain ⟨d, hd⟩ : ∃ d, im / 4 = d := ⟨_, rfl⟩
    have e1 : im = 4 * d := by omega
    subst e1
    have hm1 : (4 * d).tmod 4 = 0 := by rw [Int.mul_comm]; exact Int.mul_tmod_left d 4
    have hd1 : (4 * d).tdiv 4 = d := Int.mul_tdiv_cancel_left d (by omega)
    by_cases ht0 : (i : Int) + d < 2
    · have hg' : goB R N f i (4 * d) = false := by unfold goB; simp [hd]; omega
      rw [hg']
      have ht : ¬ (2 ≤ (i : Int) + d) := by omega
      have ht' : decide (2 ≤ (i : Int) + d) = false := by rw [decide_eq_false_iff_not]; omega
      clear hd hm
      go_enter Tryz.func110, Tryz.ntmps110
      go_wp2_with fail
      go_ret
      exact ⟨rfl, Below.refl _ _⟩
    · by_cases ht1 : (N : Int) ≤ (i : Int) + d
      · have hg' : goB R N f i (4 * d) = false := by unfold goB; simp [hd]; omega
        rw [hg']
        clear hd hm
        go_enter Tryz.func110, Tryz.ntmps110
        go_wp2_with fail
        go_ret
        exact ⟨rfl, Below.refl _ _⟩
      · obtain ⟨u, ht⟩ : ∃ u : Nat, (i : Int) + d = u + 2 := ⟨((i : Int) + d - 2).toNat, by omega⟩
        have hg' : goB R N f i (4 * d) = (!epB R N f (u + 1) && !epB R N f u) := by
          unfold goB
          rw [hd, ht, show ((u : Int) + 2).toNat = u + 2 from by omega]
          simp
          omega
        rw [hg']
        have huN : u + 2 < N := by omega
        have E1 := fun w' h1 h2 => specEnds g N c (u + 1) f R w' h1 hf hN (by omega) h2
        have E0 := fun w' h1 h2 => specEnds g N c u f R w' h1 hf hN (by omega) h2
        obtain ⟨b1, hb1⟩ : ∃ b, epB R N f (u + 1) = b := ⟨_, rfl⟩
        obtain ⟨b0, hb0⟩ : ∃ b, epB R N f u = b := ⟨_, rfl⟩
        rw [hb1] at E1
        rw [hb0] at E0
        rw [hb1, hb0]
        clear hd hm hb1 hb0 hg'
        cases b1
        · go_enter Tryz.func110, Tryz.ntmps110
          go_wp2_with fail
          rw [show ((u : Int) + 2 - 1) = ((u + 1 : Nat) : Int) from by omega]
          refine (E1 _ hg hl).mono ?_
          rintro e w1 ⟨rfl, hb1⟩
          have hg1 := Nat.lt_of_lt_of_le hg hb1.size
          have hl1 := hl.below hb1 hg
          go_wp2_with fail
          refine (E0 _ hg1 hl1).mono ?_
          rintro e w2 ⟨rfl, hb2⟩
          have hb := hb1.trans (hb2.mono hb1.size)
          clear hl1 hb1 hb2 hl
          go_wp2_with fail
          go_ret
          exact ⟨rfl, hb⟩
        · go_enter Tryz.func110, Tryz.ntmps110
          go_wp2_with fail
          rw [show ((u : Int) + 2 - 1) = ((u + 1 : Nat) : Int) from by omega]
          refine (E1 _ hg hl).mono ?_
          rintro e w1 ⟨rfl, hb1⟩
          clear hl
          go_wp2_with fail
          go_ret
          exact ⟨rfl, hb1⟩
  · have hg' : goB R N f i im = false := by unfold goB; simp [hm]
    have hm1 : ¬ (im.tmod 4 = 0) := by
      intro e
      exact hm (Int.emod_eq_zero_of_dvd (Int.dvd_of_tmod_eq_zero e))
    rw [hg']
    go_enter Tryz.func110, Tryz.ntmps110
    go_wp2_with fail
    go_ret
    exact ⟨rfl, Below.refl _ _⟩
end Go.Proofs.YthihlbfmpkjhpaaGreatDoor

namespace Go.Proofs.YthihlbfmpkjhpaaGreatDoor
open Go Go.RowKit
set_option linter.unusedVariables false

/-- What the model's check reads: a list, what may be called. -/
structure MdIs (w : World) (g N : Nat) (R : Nat → Int) (pc : Option Addr) (zs : List Int) : Prop where
  l : Rdb w g 0 (N * 5) R
  lg : g < w.heap.size
  z : IntsAt w pc zs
theorem MdIs.below {w w' : World} {g N : Nat} {R : Nat → Int} {pc : Option Addr} {zs : List Int} (h : MdIs w g N R pc zs) (hb : Below w.heap.size w w') : MdIs w' g N R pc zs :=
  ⟨h.l.below hb h.lg, Nat.lt_of_lt_of_le h.lg hb.size, h.z.below hb⟩
/-- An instruction in a block of its own. -/
structure XIs (w : World) (X : Nat) (op rd r1 r2 im : Int) : Prop where
  x0 : w.cell? ⟨X, 0, none⟩ = some (.int .i64 op)
  x1 : w.cell? ⟨X, 1, none⟩ = some (.int .i64 rd)
  x2 : w.cell? ⟨X, 2, none⟩ = some (.int .i64 r1)
  x4 : w.cell? ⟨X, 4, none⟩ = some (.int .i64 im)
  lx : X < w.heap.size
theorem XIs.below {w w' : World} {X : Nat} {op rd r1 r2 im : Int} (h : XIs w X op rd r1 r2 im) (hb : Below w.heap.size w w') : XIs w' X op rd r1 r2 im :=
  ⟨(hb.cell (p := ⟨X, 0, none⟩) h.lx).trans h.x0, (hb.cell (p := ⟨X, 1, none⟩) h.lx).trans h.x1, (hb.cell (p := ⟨X, 2, none⟩) h.lx).trans h.x2, (hb.cell (p := ⟨X, 4, none⟩) h.lx).trans h.x4, Nat.lt_of_lt_of_le h.lx hb.size⟩

section
variable {g N c : Nat} {pc : Option Addr} {cc : Nat} {at' f : Int} {R : Nat → Int} {zs : List Int}
set_option maxRecDepth 100000 in
set_option maxHeartbeats 8000000 in
theorem sruJalr (i : Nat) (w : World) (h : MdIs w g N R pc zs) (hi : i < N) (h2 : 2 ≤ i) (hN : N ≤ 64) (hf : frB f = true) (a0 : 0 ≤ at') (a1 : at' ≤ 1048575) (hz : zs.length ≤ 1048576) (hs : Small5 R i) (hop : R (i * 5) = 4) :
    Calls Tryz.prog 89 #[.slice (some ⟨g, 0, none⟩) N c, .int .i64 i, .int .i64 at', .int .i64 f, .slice pc zs.length cc] w fun e w' => e = .returned (.int .i64 (ruI R N f at' zs wdN i)) ∧ Below w.heap.size w w' := by
  obtain ⟨f0, f1, _⟩ := frB_bd hf
  obtain ⟨K, hK⟩ : ∃ K, zs.length = K := ⟨_, rfl⟩
  obtain ⟨x0, x1, x2, x3, x4⟩ := h.l.five hi
  simp only [Nat.zero_add] at x0 x1 x2 x3 x4
  obtain ⟨op, ho⟩ : ∃ op, R (i * 5) = op := ⟨_, rfl⟩
  obtain ⟨rd, hr⟩ : ∃ rd, R (i * 5 + 1) = rd := ⟨_, rfl⟩
  obtain ⟨r1, hr1⟩ : ∃ r1, R (i * 5 + 2) = r1 := ⟨_, rfl⟩
  obtain ⟨r2, hr2⟩ : ∃ r2, R (i * 5 + 3) = r2 := ⟨_, rfl⟩
  obtain ⟨im, him⟩ : ∃ im, R (i * 5 + 4) = im := ⟨_, rfl⟩
  have o0 := hs.o0
  have o1 := hs.o1
  have i0 := hs.i0
  have i1 := hs.i1
  rw [ho] at x0 o0 o1
  rw [hr] at x1
  rw [hr1] at x2
  rw [hr2] at x3
  rw [him] at x4 i0 i1
  have B1 : Below w.heap.size w (w.alloc (.cells #[.int .i64 op, .int .i64 rd, .int .i64 r1, .int .i64 r2, .int .i64 im] 124)) := (Below.refl _ _).alloc (Nat.le_refl _) _
  have h1 := h.below B1
  have hx1 : XIs (w.alloc (.cells #[.int .i64 op, .int .i64 rd, .int .i64 r1, .int .i64 r2, .int .i64 im] 124)) w.heap.size op rd r1 r2 im := ⟨by simp, by simp, by simp, by simp, by simp⟩
  have HB : Hid (Below w.heap.size w (w.alloc (.cells #[.int .i64 op, .int .i64 rd, .int .i64 r1, .int .i64 r2, .int .i64 im] 124))) := B1
  have E := fun (j : Nat) w' (h1 : MdIs w' g N R pc zs) (hj : j < 1000) => specEnds g N c j f R w' h1.lg hf hN hj h1.l
  have G := fun w' (h1 : MdIs w' g N R pc zs) => specGoes g N c i im f R w' h1.lg hf hN (by omega) h1.l i0 i1
  have C := fun w' (x : Int) (h1 : MdIs w' g N R pc zs) => hasIntC pc cc zs x w' hz h1.z
  rw [hK] at C hz ⊢
  clear B1 hr2 h
  by_cases h4 : op = 4
  · subst h4
    rw [ru_jalr ho]
    have E2 := fun w' h1 => E (i - 2) w' h1 (by omega)
    obtain ⟨b, hb⟩ : ∃ b, epB R N f (i - 2) = b := ⟨_, rfl⟩
    rw [hb] at E2 ⊢
    clear hb ho hr hr1 him E G C
    go_enter Tryz.func89, Tryz.ntmps89
    go_wp2_with (go_at_call 107; refine (specWidOut 4 _ (by omega)).mono ?_; rintro e w' ⟨rfl, rfl⟩)
    rw [show ((i : Int) - 2) = ((i - 2 : Nat) : Int) from by omega]
    refine (E2 _ h1).mono ?_
    rintro e w2 ⟨rfl, hb2⟩
    have B2 := HB.out.trans (hb2.mono HB.out.size)
    clear h1 HB hb2
    cases b
    all_goals
      go_wp2_with fail
      go_ret
      exact ⟨rfl, B2⟩
  exact absurd (ho.symm.trans hop) h4

set_option maxRecDepth 100000 in
set_option maxHeartbeats 8000000 in
theorem sruJal (i : Nat) (w : World) (h : MdIs w g N R pc zs) (hi : i < N) (h2 : 2 ≤ i) (hN : N ≤ 64) (hf : frB f = true) (a0 : 0 ≤ at') (a1 : at' ≤ 1048575) (hz : zs.length ≤ 1048576) (hs : Small5 R i) (hop : R (i * 5) = 3) :
    Calls Tryz.prog 89 #[.slice (some ⟨g, 0, none⟩) N c, .int .i64 i, .int .i64 at', .int .i64 f, .slice pc zs.length cc] w fun e w' => e = .returned (.int .i64 (ruI R N f at' zs wdN i)) ∧ Below w.heap.size w w' := by
  obtain ⟨f0, f1, _⟩ := frB_bd hf
  obtain ⟨K, hK⟩ : ∃ K, zs.length = K := ⟨_, rfl⟩
  obtain ⟨x0, x1, x2, x3, x4⟩ := h.l.five hi
  simp only [Nat.zero_add] at x0 x1 x2 x3 x4
  obtain ⟨op, ho⟩ : ∃ op, R (i * 5) = op := ⟨_, rfl⟩
  obtain ⟨rd, hr⟩ : ∃ rd, R (i * 5 + 1) = rd := ⟨_, rfl⟩
  obtain ⟨r1, hr1⟩ : ∃ r1, R (i * 5 + 2) = r1 := ⟨_, rfl⟩
  obtain ⟨r2, hr2⟩ : ∃ r2, R (i * 5 + 3) = r2 := ⟨_, rfl⟩
  obtain ⟨im, him⟩ : ∃ im, R (i * 5 + 4) = im := ⟨_, rfl⟩
  have o0 := hs.o0
  have o1 := hs.o1
  have i0 := hs.i0
  have i1 := hs.i1
  rw [ho] at x0 o0 o1
  rw [hr] at x1
  rw [hr1] at x2
  rw [hr2] at x3
  rw [him] at x4 i0 i1
  have B1 : Below w.heap.size w (w.alloc (.cells #[.int .i64 op, .int .i64 rd, .int .i64 r1, .int .i64 r2, .int .i64 im] 124)) := (Below.refl _ _).alloc (Nat.le_refl _) _
  have h1 := h.below B1
  have hx1 : XIs (w.alloc (.cells #[.int .i64 op, .int .i64 rd, .int .i64 r1, .int .i64 r2, .int .i64 im] 124)) w.heap.size op rd r1 r2 im := ⟨by simp, by simp, by simp, by simp, by simp⟩
  have HB : Hid (Below w.heap.size w (w.alloc (.cells #[.int .i64 op, .int .i64 rd, .int .i64 r1, .int .i64 r2, .int .i64 im] 124))) := B1
  have E := fun (j : Nat) w' (h1 : MdIs w' g N R pc zs) (hj : j < 1000) => specEnds g N c j f R w' h1.lg hf hN hj h1.l
  have G := fun w' (h1 : MdIs w' g N R pc zs) => specGoes g N c i im f R w' h1.lg hf hN (by omega) h1.l i0 i1
  have C := fun w' (x : Int) (h1 : MdIs w' g N R pc zs) => hasIntC pc cc zs x w' hz h1.z
  rw [hK] at C hz ⊢
  clear B1 hr2 h
  have h4 : ¬ op = 4 := by omega
  have h4b : (op == 4) = false := by simpa using h4
  by_cases h3 : op = 3
  · subst h3
    by_cases hrd : rd = 1
    · subst hrd
      rw [ru_call ho hr, him]
      have C2 := fun w' h1 => C w' (at' + 4 * i + im) h1
      obtain ⟨b, hb⟩ : ∃ b, hasB zs (at' + 4 * i + im) = b := ⟨_, rfl⟩
      rw [hb] at C2 ⊢
      clear hb ho hr hr1 him E G C
      cases b
      all_goals
        go_enter Tryz.func89, Tryz.ntmps89
        go_wp2_with (first | (go_at_call 107; refine (specWidOut 3 _ (by omega)).mono ?_; rintro e w' ⟨rfl, rfl⟩) | (go_at_call 109; refine (C2 _ h1).mono ?_; rintro e w' ⟨rfl, rfl⟩))
        go_ret
        exact ⟨rfl, HB.out⟩
    · rw [ru_jal ho (by rw [hr]; exact hrd), hr, him]
      obtain ⟨b, hb⟩ : ∃ b, goB R N f i im = b := ⟨_, rfl⟩
      rw [hb] at G ⊢
      have hrdb : (rd == 1) = false := by simpa using hrd
      clear hb ho hr hr1 him E C
      by_cases h0 : rd = 0
      · subst h0
        go_enter Tryz.func89, Tryz.ntmps89
        go_wp2_with (go_at_call 107; refine (specWidOut 3 _ (by omega)).mono ?_; rintro e w' ⟨rfl, rfl⟩)
        refine (G _ h1).mono ?_
        rintro e w2 ⟨rfl, hb2⟩
        have B2 := HB.out.trans (hb2.mono HB.out.size)
        clear h1 HB hb2
        cases b
        all_goals
          go_wp2_with fail
          go_ret
          exact ⟨rfl, B2⟩
      · have h0b : (rd == 0) = false := by simpa using h0
        rw [if_neg (fun hh => h0 hh.1)]
        go_enter Tryz.func89, Tryz.ntmps89
        go_wp2_with (go_at_call 107; refine (specWidOut 3 _ (by omega)).mono ?_; rintro e w' ⟨rfl, rfl⟩)
        go_ret
        exact ⟨rfl, HB.out⟩
  exact absurd (ho.symm.trans hop) h3

set_option maxRecDepth 100000 in
set_option maxHeartbeats 8000000 in
theorem sruBr (i : Nat) (w : World) (h : MdIs w g N R pc zs) (hi : i < N) (h2 : 2 ≤ i) (hN : N ≤ 64) (hf : frB f = true) (a0 : 0 ≤ at') (a1 : at' ≤ 1048575) (hz : zs.length ≤ 1048576) (hs : Small5 R i) (hop : 5 ≤ R (i * 5) ∧ R (i * 5) ≤ 10) :
    Calls Tryz.prog 89 #[.slice (some ⟨g, 0, none⟩) N c, .int .i64 i, .int .i64 at', .int .i64 f, .slice pc zs.length cc] w fun e w' => e = .returned (.int .i64 (ruI R N f at' zs wdN i)) ∧ Below w.heap.size w w' := by
  obtain ⟨f0, f1, _⟩ := frB_bd hf
  obtain ⟨K, hK⟩ : ∃ K, zs.length = K := ⟨_, rfl⟩
  obtain ⟨x0, x1, x2, x3, x4⟩ := h.l.five hi
  simp only [Nat.zero_add] at x0 x1 x2 x3 x4
  obtain ⟨op, ho⟩ : ∃ op, R (i * 5) = op := ⟨_, rfl⟩
  obtain ⟨rd, hr⟩ : ∃ rd, R (i * 5 + 1) = rd := ⟨_, rfl⟩
  obtain ⟨r1, hr1⟩ : ∃ r1, R (i * 5 + 2) = r1 := ⟨_, rfl⟩
  obtain ⟨r2, hr2⟩ : ∃ r2, R (i * 5 + 3) = r2 := ⟨_, rfl⟩
  obtain ⟨im, him⟩ : ∃ im, R (i * 5 + 4) = im := ⟨_, rfl⟩
  have o0 := hs.o0
  have o1 := hs.o1
  have i0 := hs.i0
  have i1 := hs.i1
  rw [ho] at x0 o0 o1
  rw [hr] at x1
  rw [hr1] at x2
  rw [hr2] at x3
  rw [him] at x4 i0 i1
  have B1 : Below w.heap.size w (w.alloc (.cells #[.int .i64 op, .int .i64 rd, .int .i64 r1, .int .i64 r2, .int .i64 im] 124)) := (Below.refl _ _).alloc (Nat.le_refl _) _
  have h1 := h.below B1
  have hx1 : XIs (w.alloc (.cells #[.int .i64 op, .int .i64 rd, .int .i64 r1, .int .i64 r2, .int .i64 im] 124)) w.heap.size op rd r1 r2 im := ⟨by simp, by simp, by simp, by simp, by simp⟩
  have HB : Hid (Below w.heap.size w (w.alloc (.cells #[.int .i64 op, .int .i64 rd, .int .i64 r1, .int .i64 r2, .int .i64 im] 124))) := B1
  have E := fun (j : Nat) w' (h1 : MdIs w' g N R pc zs) (hj : j < 1000) => specEnds g N c j f R w' h1.lg hf hN hj h1.l
  have G := fun w' (h1 : MdIs w' g N R pc zs) => specGoes g N c i im f R w' h1.lg hf hN (by omega) h1.l i0 i1
  have C := fun w' (x : Int) (h1 : MdIs w' g N R pc zs) => hasIntC pc cc zs x w' hz h1.z
  rw [hK] at C hz ⊢
  clear B1 hr2 h
  have h4 : ¬ op = 4 := by omega
  have h3 : ¬ op = 3 := by omega
  have h4b : (op == 4) = false := by simpa using h4
  have h3b : (op == 3) = false := by simpa using h3
  have hfb := form_branch op o0 o1
  obtain ⟨⟨f4, fc, fg, fh⟩, hsq⟩ : ∃ s, shT op = s := ⟨_, rfl⟩
  have hsh := fun w' => specShs op f4 fc fg fh w' hsq
  simp only [hsq] at hfb
  have hbr : 5 ≤ op ∧ op ≤ 10 := by rw [← ho]; exact hop
  rw [ru_branch (by omega) (by omega), him]
  obtain rfl := hfb.2 hbr
  have wd := fun w' => specWidOut op w' (by omega)
  obtain ⟨b, hb⟩ : ∃ b, goB R N f i im = b := ⟨_, rfl⟩
  rw [hb] at G ⊢
  clear hb ho hr hr1 him E C hfb hbr
  go_enter Tryz.func89, Tryz.ntmps89
  go_wp2_with (go_at_call 107; refine (wd _).mono ?_; rintro e w' ⟨rfl, rfl⟩)
  refine (hsh _).mono ?_
  rintro e w2 ⟨rfl, hb2⟩
  have B2 := HB.out.trans (hb2.mono HB.out.size)
  have hh2 := h1.below hb2
  have xx2 := hx1.below hb2
  have y4 := xx2.x4
  have hfd := shField0 4 fc fg fh w2
  clear h1 HB hb2 hx1 hsh xx2
  go_wp2_with fail
  refine (G _ hh2).mono ?_
  rintro e w3 ⟨rfl, hb3⟩
  have B3 := B2.trans (hb3.mono B2.size)
  clear hb3 hh2 B2 y4 hfd
  cases b
  all_goals
    go_wp2_with fail
    go_ret
    exact ⟨rfl, B3⟩

end
end Go.Proofs.YthihlbfmpkjhpaaGreatDoor

namespace Go.Proofs.YthihlbfmpkjhpaaGreatDoor
open Go Go.RowKit
set_option linter.unusedVariables false

section
variable {g N c : Nat} {pc : Option Addr} {cc : Nat} {at' f : Int} {R : Nat → Int} {zs : List Int}
set_option maxRecDepth 100000 in
set_option maxHeartbeats 8000000 in
theorem bad1In (i j : Nat) (op r1 r2 im f4 fc fg fh wn : Int) (b : Bool) (w : World) (h : MdIs w g N R pc zs) (hi : i < N) (h2 : 2 ≤ i) (hN : N ≤ 64) (hj : i - 1 = j) (f0 : 16 ≤ f) (f1 : f ≤ 128)
    (ho : R (i * 5) = op) (hr : R (i * 5 + 1) = 1) (hr1 : R (i * 5 + 2) = r1) (hr2' : R (i * 5 + 3) = r2) (him : R (i * 5 + 4) = im) (h4b : (op == 4) = false) (h3b : (op == 3) = false) (hsq : shT op = ⟨f4, fc, fg, fh⟩) (hf4b : (f4 == 4) = false)
    (Ea : ∀ w', MdIs w' g N R pc zs → Calls Tryz.prog 108 #[.slice (some ⟨g, 0, none⟩) N c, .int .i64 (i : Nat), .int .i64 f] w' fun e w'' => e = .returned (.bool false) ∧ Below w'.heap.size w' w'')
    (Eb : ∀ w', MdIs w' g N R pc zs → Calls Tryz.prog 108 #[.slice (some ⟨g, 0, none⟩) N c, .int .i64 (j : Nat), .int .i64 f] w' fun e w'' => e = .returned (.bool b) ∧ Below w'.heap.size w' w'')
    (hop : 11 ≤ op ∧ op ≤ 21) (hwn : wdN op = wn) (hw0 : 0 < wn) (hw8 : wn ≤ 8) :
    Calls Tryz.prog 89 #[.slice (some ⟨g, 0, none⟩) N c, .int .i64 i, .int .i64 at', .int .i64 f, .slice pc zs.length cc] w fun e w' => e = .returned (.int .i64 21) ∧ Below w.heap.size w w' := by
  obtain ⟨K, hK⟩ : ∃ K, zs.length = K := ⟨_, rfl⟩
  rw [hK]
  clear hK
  obtain ⟨x0, x1, x2, x3, x4⟩ := h.l.five hi
  simp only [Nat.zero_add] at x0 x1 x2 x3 x4
  rw [ho] at x0
  rw [hr] at x1
  rw [hr1] at x2
  rw [hr2'] at x3
  rw [him] at x4
  have B1 : Below w.heap.size w (w.alloc (.cells #[.int .i64 op, .int .i64 1, .int .i64 r1, .int .i64 r2, .int .i64 im] 124)) := (Below.refl _ _).alloc (Nat.le_refl _) _
  have hh := h.below B1
  have xx : XIs (w.alloc (.cells #[.int .i64 op, .int .i64 1, .int .i64 r1, .int .i64 r2, .int .i64 im] 124)) w.heap.size op 1 r1 r2 im := ⟨by simp, by simp, by simp, by simp, by simp⟩
  have BB : Hid (Below w.heap.size w (w.alloc (.cells #[.int .i64 op, .int .i64 1, .int .i64 r1, .int .i64 r2, .int .i64 im] 124))) := B1
  have hsub : ((i : Int) - 1) = ((j : Nat) : Int) := by omega
  have hsh := fun w' => specShs op f4 fc fg fh w' hsq
  clear B1 h hsq hj ho hr hr1 hr2' him
  have wd := fun w' => specWidIn op w' hop.1 hop.2
  rw [hwn] at wd
  have hwz : ¬ wn = 0 := by omega
  go_enter Tryz.func89, Tryz.ntmps89
  go_wp2_with (go_at_call 107; refine (wd _).mono ?_; rintro e w' ⟨rfl, rfl⟩)
  refine (hsh _).mono ?_
  rintro e w2 ⟨rfl, hb2⟩
  have B2 : Hid (Below _ _ w2) := BB.out.trans (hb2.mono BB.out.size)
  have hh2 := hh.below hb2
  have xx2 := xx.below hb2
  have y1 := xx2.x1
  have y2 := xx2.x2
  have y4 := xx2.x4
  have hfd := shField0 f4 fc fg fh w2
  clear hb2 hh xx BB hsh x0 x1 x2 x3 x4
  go_wp2_with fail
  try rw [hsub]
  refine (Ea _ hh2).mono ?_
  rintro e w3 ⟨rfl, hb3⟩
  have B3 : Hid (Below _ _ w3) := B2.out.trans (hb3.mono B2.out.size)
  have hh3 := hh2.below hb3
  have xx3 := xx2.below hb3
  clear y1 y2 y4 hb3 hh2 xx2 B2
  have y1 := xx3.x1
  have y2 := xx3.x2
  have y4 := xx3.x4
  go_wp2_with fail
  all_goals first
    | (go_ret; exact ⟨rfl, B3.out⟩)
    | (rename_i hx; exfalso; have hy := hx.2; rw [hm3] at hy; cases hy)

set_option maxRecDepth 100000 in
set_option maxHeartbeats 8000000 in
theorem bad2In (i j : Nat) (op r1 r2 im f4 fc fg fh wn : Int) (a : Bool) (w : World) (h : MdIs w g N R pc zs) (hi : i < N) (h2 : 2 ≤ i) (hN : N ≤ 64) (hj : i - 1 = j) (f0 : 16 ≤ f) (f1 : f ≤ 128)
    (ho : R (i * 5) = op) (hr : R (i * 5 + 1) = 2) (hr1 : R (i * 5 + 2) = r1) (hr2' : R (i * 5 + 3) = r2) (him : R (i * 5 + 4) = im) (h4b : (op == 4) = false) (h3b : (op == 3) = false) (hsq : shT op = ⟨f4, fc, fg, fh⟩) (hf4b : (f4 == 4) = false)
    (Ea : ∀ w', MdIs w' g N R pc zs → Calls Tryz.prog 108 #[.slice (some ⟨g, 0, none⟩) N c, .int .i64 (i : Nat), .int .i64 f] w' fun e w'' => e = .returned (.bool a) ∧ Below w'.heap.size w' w'')
    (Eb : ∀ w', MdIs w' g N R pc zs → Calls Tryz.prog 108 #[.slice (some ⟨g, 0, none⟩) N c, .int .i64 (j : Nat), .int .i64 f] w' fun e w'' => e = .returned (.bool false) ∧ Below w'.heap.size w' w'')
    (hop : 11 ≤ op ∧ op ≤ 21) (hwn : wdN op = wn) (hw0 : 0 < wn) (hw8 : wn ≤ 8) :
    Calls Tryz.prog 89 #[.slice (some ⟨g, 0, none⟩) N c, .int .i64 i, .int .i64 at', .int .i64 f, .slice pc zs.length cc] w fun e w' => e = .returned (.int .i64 21) ∧ Below w.heap.size w w' := by
  obtain ⟨K, hK⟩ : ∃ K, zs.length = K := ⟨_, rfl⟩
  rw [hK]
  clear hK
  obtain ⟨x0, x1, x2, x3, x4⟩ := h.l.five hi
  simp only [Nat.zero_add] at x0 x1 x2 x3 x4
  rw [ho] at x0
  rw [hr] at x1
  rw [hr1] at x2
  rw [hr2'] at x3
  rw [him] at x4
  have B1 : Below w.heap.size w (w.alloc (.cells #[.int .i64 op, .int .i64 2, .int .i64 r1, .int .i64 r2, .int .i64 im] 124)) := (Below.refl _ _).alloc (Nat.le_refl _) _
  have hh := h.below B1
  have xx : XIs (w.alloc (.cells #[.int .i64 op, .int .i64 2, .int .i64 r1, .int .i64 r2, .int .i64 im] 124)) w.heap.size op 2 r1 r2 im := ⟨by simp, by simp, by simp, by simp, by simp⟩
  have BB : Hid (Below w.heap.size w (w.alloc (.cells #[.int .i64 op, .int .i64 2, .int .i64 r1, .int .i64 r2, .int .i64 im] 124))) := B1
  have hsub : ((i : Int) - 1) = ((j : Nat) : Int) := by omega
  have hsh := fun w' => specShs op f4 fc fg fh w' hsq
  clear B1 h hsq hj ho hr hr1 hr2' him
  have wd := fun w' => specWidIn op w' hop.1 hop.2
  rw [hwn] at wd
  have hwz : ¬ wn = 0 := by omega
  go_enter Tryz.func89, Tryz.ntmps89
  go_wp2_with (go_at_call 107; refine (wd _).mono ?_; rintro e w' ⟨rfl, rfl⟩)
  refine (hsh _).mono ?_
  rintro e w2 ⟨rfl, hb2⟩
  have B2 : Hid (Below _ _ w2) := BB.out.trans (hb2.mono BB.out.size)
  have hh2 := hh.below hb2
  have xx2 := xx.below hb2
  have y1 := xx2.x1
  have y2 := xx2.x2
  have y4 := xx2.x4
  have hfd := shField0 f4 fc fg fh w2
  clear hb2 hh xx BB hsh x0 x1 x2 x3 x4
  go_wp2_with fail
  try rw [hsub]
  refine (Eb _ hh2).mono ?_
  rintro e w3 ⟨rfl, hb3⟩
  have B3 : Hid (Below _ _ w3) := B2.out.trans (hb3.mono B2.out.size)
  have hh3 := hh2.below hb3
  have xx3 := xx2.below hb3
  clear y1 y2 y4 hb3 hh2 xx2 B2
  have y1 := xx3.x1
  have y2 := xx3.x2
  have y4 := xx3.x4
  go_wp2_with fail
  all_goals first
    | (go_ret; exact ⟨rfl, B3.out⟩)
    | (rename_i hx; exfalso; have hy := hx.2; rw [hm3] at hy; cases hy)

set_option maxRecDepth 100000 in
set_option maxHeartbeats 8000000 in
theorem bad1Out (i j : Nat) (op r1 r2 im f4 fc fg fh wn : Int) (b : Bool) (w : World) (h : MdIs w g N R pc zs) (hi : i < N) (h2 : 2 ≤ i) (hN : N ≤ 64) (hj : i - 1 = j) (f0 : 16 ≤ f) (f1 : f ≤ 128)
    (ho : R (i * 5) = op) (hr : R (i * 5 + 1) = 1) (hr1 : R (i * 5 + 2) = r1) (hr2' : R (i * 5 + 3) = r2) (him : R (i * 5 + 4) = im) (h4b : (op == 4) = false) (h3b : (op == 3) = false) (hsq : shT op = ⟨f4, fc, fg, fh⟩) (hf4b : (f4 == 4) = false)
    (Ea : ∀ w', MdIs w' g N R pc zs → Calls Tryz.prog 108 #[.slice (some ⟨g, 0, none⟩) N c, .int .i64 (i : Nat), .int .i64 f] w' fun e w'' => e = .returned (.bool false) ∧ Below w'.heap.size w' w'')
    (Eb : ∀ w', MdIs w' g N R pc zs → Calls Tryz.prog 108 #[.slice (some ⟨g, 0, none⟩) N c, .int .i64 (j : Nat), .int .i64 f] w' fun e w'' => e = .returned (.bool b) ∧ Below w'.heap.size w' w'')
    (o0 : 1 ≤ op) (hop : op < 11 ∨ 21 < op) :
    Calls Tryz.prog 89 #[.slice (some ⟨g, 0, none⟩) N c, .int .i64 i, .int .i64 at', .int .i64 f, .slice pc zs.length cc] w fun e w' => e = .returned (.int .i64 21) ∧ Below w.heap.size w w' := by
  obtain ⟨K, hK⟩ : ∃ K, zs.length = K := ⟨_, rfl⟩
  rw [hK]
  clear hK
  obtain ⟨x0, x1, x2, x3, x4⟩ := h.l.five hi
  simp only [Nat.zero_add] at x0 x1 x2 x3 x4
  rw [ho] at x0
  rw [hr] at x1
  rw [hr1] at x2
  rw [hr2'] at x3
  rw [him] at x4
  have B1 : Below w.heap.size w (w.alloc (.cells #[.int .i64 op, .int .i64 1, .int .i64 r1, .int .i64 r2, .int .i64 im] 124)) := (Below.refl _ _).alloc (Nat.le_refl _) _
  have hh := h.below B1
  have xx : XIs (w.alloc (.cells #[.int .i64 op, .int .i64 1, .int .i64 r1, .int .i64 r2, .int .i64 im] 124)) w.heap.size op 1 r1 r2 im := ⟨by simp, by simp, by simp, by simp, by simp⟩
  have BB : Hid (Below w.heap.size w (w.alloc (.cells #[.int .i64 op, .int .i64 1, .int .i64 r1, .int .i64 r2, .int .i64 im] 124))) := B1
  have hsub : ((i : Int) - 1) = ((j : Nat) : Int) := by omega
  have hsh := fun w' => specShs op f4 fc fg fh w' hsq
  clear B1 h hsq hj ho hr hr1 hr2' him
  have wd := fun w' => specWidOut op w' hop
  go_enter Tryz.func89, Tryz.ntmps89
  go_wp2_with (go_at_call 107; refine (wd _).mono ?_; rintro e w' ⟨rfl, rfl⟩)
  refine (hsh _).mono ?_
  rintro e w2 ⟨rfl, hb2⟩
  have B2 : Hid (Below _ _ w2) := BB.out.trans (hb2.mono BB.out.size)
  have hh2 := hh.below hb2
  have xx2 := xx.below hb2
  have y1 := xx2.x1
  have y2 := xx2.x2
  have y4 := xx2.x4
  have hfd := shField0 f4 fc fg fh w2
  clear hb2 hh xx BB hsh x0 x1 x2 x3 x4
  go_wp2_with fail
  try rw [hsub]
  refine (Ea _ hh2).mono ?_
  rintro e w3 ⟨rfl, hb3⟩
  have B3 : Hid (Below _ _ w3) := B2.out.trans (hb3.mono B2.out.size)
  have hh3 := hh2.below hb3
  have xx3 := xx2.below hb3
  clear y1 y2 y4 hb3 hh2 xx2 B2
  have y1 := xx3.x1
  have y2 := xx3.x2
  have y4 := xx3.x4
  go_wp2_with fail
  all_goals first
    | (go_ret; exact ⟨rfl, B3.out⟩)
    | (rename_i hx; exfalso; have hy := hx.2; rw [hm3] at hy; cases hy)

set_option maxRecDepth 100000 in
set_option maxHeartbeats 8000000 in
theorem bad2Out (i j : Nat) (op r1 r2 im f4 fc fg fh wn : Int) (a : Bool) (w : World) (h : MdIs w g N R pc zs) (hi : i < N) (h2 : 2 ≤ i) (hN : N ≤ 64) (hj : i - 1 = j) (f0 : 16 ≤ f) (f1 : f ≤ 128)
    (ho : R (i * 5) = op) (hr : R (i * 5 + 1) = 2) (hr1 : R (i * 5 + 2) = r1) (hr2' : R (i * 5 + 3) = r2) (him : R (i * 5 + 4) = im) (h4b : (op == 4) = false) (h3b : (op == 3) = false) (hsq : shT op = ⟨f4, fc, fg, fh⟩) (hf4b : (f4 == 4) = false)
    (Ea : ∀ w', MdIs w' g N R pc zs → Calls Tryz.prog 108 #[.slice (some ⟨g, 0, none⟩) N c, .int .i64 (i : Nat), .int .i64 f] w' fun e w'' => e = .returned (.bool a) ∧ Below w'.heap.size w' w'')
    (Eb : ∀ w', MdIs w' g N R pc zs → Calls Tryz.prog 108 #[.slice (some ⟨g, 0, none⟩) N c, .int .i64 (j : Nat), .int .i64 f] w' fun e w'' => e = .returned (.bool false) ∧ Below w'.heap.size w' w'')
    (o0 : 1 ≤ op) (hop : op < 11 ∨ 21 < op) :
    Calls Tryz.prog 89 #[.slice (some ⟨g, 0, none⟩) N c, .int .i64 i, .int .i64 at', .int .i64 f, .slice pc zs.length cc] w fun e w' => e = .returned (.int .i64 21) ∧ Below w.heap.size w w' := by
  obtain ⟨K, hK⟩ : ∃ K, zs.length = K := ⟨_, rfl⟩
  rw [hK]
  clear hK
  obtain ⟨x0, x1, x2, x3, x4⟩ := h.l.five hi
  simp only [Nat.zero_add] at x0 x1 x2 x3 x4
  rw [ho] at x0
  rw [hr] at x1
  rw [hr1] at x2
  rw [hr2'] at x3
  rw [him] at x4
  have B1 : Below w.heap.size w (w.alloc (.cells #[.int .i64 op, .int .i64 2, .int .i64 r1, .int .i64 r2, .int .i64 im] 124)) := (Below.refl _ _).alloc (Nat.le_refl _) _
  have hh := h.below B1
  have xx : XIs (w.alloc (.cells #[.int .i64 op, .int .i64 2, .int .i64 r1, .int .i64 r2, .int .i64 im] 124)) w.heap.size op 2 r1 r2 im := ⟨by simp, by simp, by simp, by simp, by simp⟩
  have BB : Hid (Below w.heap.size w (w.alloc (.cells #[.int .i64 op, .int .i64 2, .int .i64 r1, .int .i64 r2, .int .i64 im] 124))) := B1
  have hsub : ((i : Int) - 1) = ((j : Nat) : Int) := by omega
  have hsh := fun w' => specShs op f4 fc fg fh w' hsq
  clear B1 h hsq hj ho hr hr1 hr2' him
  have wd := fun w' => specWidOut op w' hop
  go_enter Tryz.func89, Tryz.ntmps89
  go_wp2_with (go_at_call 107; refine (wd _).mono ?_; rintro e w' ⟨rfl, rfl⟩)
  refine (hsh _).mono ?_
  rintro e w2 ⟨rfl, hb2⟩
  have B2 : Hid (Below _ _ w2) := BB.out.trans (hb2.mono BB.out.size)
  have hh2 := hh.below hb2
  have xx2 := xx.below hb2
  have y1 := xx2.x1
  have y2 := xx2.x2
  have y4 := xx2.x4
  have hfd := shField0 f4 fc fg fh w2
  clear hb2 hh xx BB hsh x0 x1 x2 x3 x4
  go_wp2_with fail
  try rw [hsub]
  refine (Eb _ hh2).mono ?_
  rintro e w3 ⟨rfl, hb3⟩
  have B3 : Hid (Below _ _ w3) := B2.out.trans (hb3.mono B2.out.size)
  have hh3 := hh2.below hb3
  have xx3 := xx2.below hb3
  clear y1 y2 y4 hb3 hh2 xx2 B2
  have y1 := xx3.x1
  have y2 := xx3.x2
  have y4 := xx3.x4
  go_wp2_with fail
  all_goals first
    | (go_ret; exact ⟨rfl, B3.out⟩)
    | (rename_i hx; exfalso; have hy := hx.2; rw [hm3] at hy; cases hy)

end
end Go.Proofs.YthihlbfmpkjhpaaGreatDoor

namespace Go.Proofs.YthihlbfmpkjhpaaGreatDoor
open Go Go.RowKit
set_option linter.unusedVariables false

section
variable {g N c : Nat} {pc : Option Addr} {cc : Nat} {at' f : Int} {R : Nat → Int} {zs : List Int}
set_option maxRecDepth 100000 in
set_option maxHeartbeats 8000000 in
theorem inT1 (i j : Nat) (op r2 im f4 fc fg fh wn : Int) (b : Bool) (w : World) (h : MdIs w g N R pc zs) (hi : i < N) (h2 : 2 ≤ i) (hN : N ≤ 64) (hj : i - 1 = j) (f0 : 16 ≤ f) (f1 : f ≤ 128)
    (ho : R (i * 5) = op) (hr : R (i * 5 + 1) = 1) (hr1 : R (i * 5 + 2) = 2) (hr2' : R (i * 5 + 3) = r2) (him : R (i * 5 + 4) = im) (h4b : (op == 4) = false) (h3b : (op == 3) = false) (hsq : shT op = ⟨f4, fc, fg, fh⟩) (hf4b : (f4 == 4) = false)
    (Ea : ∀ w', MdIs w' g N R pc zs → Calls Tryz.prog 108 #[.slice (some ⟨g, 0, none⟩) N c, .int .i64 (i : Nat), .int .i64 f] w' fun e w'' => e = .returned (.bool true) ∧ Below w'.heap.size w' w'')
    (Eb : ∀ w', MdIs w' g N R pc zs → Calls Tryz.prog 108 #[.slice (some ⟨g, 0, none⟩) N c, .int .i64 (j : Nat), .int .i64 f] w' fun e w'' => e = .returned (.bool b) ∧ Below w'.heap.size w' w'')
    (hop : 11 ≤ op ∧ op ≤ 21) (hwn : wdN op = wn) (hw0 : 0 < wn) (hw8 : wn ≤ 8) :
    Calls Tryz.prog 89 #[.slice (some ⟨g, 0, none⟩) N c, .int .i64 i, .int .i64 at', .int .i64 f, .slice pc zs.length cc] w fun e w' => e = .returned (.int .i64 0) ∧ Below w.heap.size w w' := by
  obtain ⟨K, hK⟩ : ∃ K, zs.length = K := ⟨_, rfl⟩
  rw [hK]
  clear hK
  obtain ⟨x0, x1, x2, x3, x4⟩ := h.l.five hi
  simp only [Nat.zero_add] at x0 x1 x2 x3 x4
  rw [ho] at x0
  rw [hr] at x1
  rw [hr1] at x2
  rw [hr2'] at x3
  rw [him] at x4
  have B1 : Below w.heap.size w (w.alloc (.cells #[.int .i64 op, .int .i64 1, .int .i64 2, .int .i64 r2, .int .i64 im] 124)) := (Below.refl _ _).alloc (Nat.le_refl _) _
  have hh := h.below B1
  have xx : XIs (w.alloc (.cells #[.int .i64 op, .int .i64 1, .int .i64 2, .int .i64 r2, .int .i64 im] 124)) w.heap.size op 1 2 r2 im := ⟨by simp, by simp, by simp, by simp, by simp⟩
  have BB : Hid (Below w.heap.size w (w.alloc (.cells #[.int .i64 op, .int .i64 1, .int .i64 2, .int .i64 r2, .int .i64 im] 124))) := B1
  have hsub : ((i : Int) - 1) = ((j : Nat) : Int) := by omega
  have hsh := fun w' => specShs op f4 fc fg fh w' hsq
  clear B1 h hsq hj ho hr hr1 hr2' him
  have wd := fun w' => specWidIn op w' hop.1 hop.2
  rw [hwn] at wd
  have hwz : ¬ wn = 0 := by omega
  go_enter Tryz.func89, Tryz.ntmps89
  go_wp2_with (go_at_call 107; refine (wd _).mono ?_; rintro e w' ⟨rfl, rfl⟩)
  refine (hsh _).mono ?_
  rintro e w2 ⟨rfl, hb2⟩
  have B2 : Hid (Below _ _ w2) := BB.out.trans (hb2.mono BB.out.size)
  have hh2 := hh.below hb2
  have xx2 := xx.below hb2
  have y1 := xx2.x1
  have y2 := xx2.x2
  have y4 := xx2.x4
  have hfd := shField0 f4 fc fg fh w2
  clear hb2 hh xx BB hsh x0 x1 x2 x3 x4
  go_wp2_with fail
  try rw [hsub]
  refine (Ea _ hh2).mono ?_
  rintro e w3 ⟨rfl, hb3⟩
  have B3 : Hid (Below _ _ w3) := B2.out.trans (hb3.mono B2.out.size)
  have hh3 := hh2.below hb3
  have xx3 := xx2.below hb3
  clear y1 y2 y4 hb3 hh2 xx2 B2
  have y1 := xx3.x1
  have y2 := xx3.x2
  have y4 := xx3.x4
  go_wp2_with fail
  try rw [hsub]
  refine (Ea _ hh3).mono ?_
  rintro e w4 ⟨rfl, hb4⟩
  have B4 : Hid (Below _ _ w4) := B3.out.trans (hb4.mono B3.out.size)
  have hh4 := hh3.below hb4
  have xx4 := xx3.below hb4
  clear y1 y2 y4 hb4 hh3 xx3 B3
  have y1 := xx4.x1
  have y2 := xx4.x2
  have y4 := xx4.x4
  go_wp2_with fail
  all_goals first
    | (go_ret; exact ⟨rfl, B4.out⟩)
    | (rename_i hx; exfalso; have hy := hx.2; rw [hm3] at hy; cases hy)

set_option maxRecDepth 100000 in
set_option maxHeartbeats 8000000 in
theorem inT2 (i j : Nat) (op r2 im f4 fc fg fh wn : Int) (w : World) (h : MdIs w g N R pc zs) (hi : i < N) (h2 : 2 ≤ i) (hN : N ≤ 64) (hj : i - 1 = j) (f0 : 16 ≤ f) (f1 : f ≤ 128)
    (ho : R (i * 5) = op) (hr : R (i * 5 + 1) = 2) (hr1 : R (i * 5 + 2) = 2) (hr2' : R (i * 5 + 3) = r2) (him : R (i * 5 + 4) = im) (h4b : (op == 4) = false) (h3b : (op == 3) = false) (hsq : shT op = ⟨f4, fc, fg, fh⟩) (hf4b : (f4 == 4) = false)
    (Ea : ∀ w', MdIs w' g N R pc zs → Calls Tryz.prog 108 #[.slice (some ⟨g, 0, none⟩) N c, .int .i64 (i : Nat), .int .i64 f] w' fun e w'' => e = .returned (.bool true) ∧ Below w'.heap.size w' w'')
    (Eb : ∀ w', MdIs w' g N R pc zs → Calls Tryz.prog 108 #[.slice (some ⟨g, 0, none⟩) N c, .int .i64 (j : Nat), .int .i64 f] w' fun e w'' => e = .returned (.bool true) ∧ Below w'.heap.size w' w'')
    (hop : 11 ≤ op ∧ op ≤ 21) (hwn : wdN op = wn) (hw0 : 0 < wn) (hw8 : wn ≤ 8) :
    Calls Tryz.prog 89 #[.slice (some ⟨g, 0, none⟩) N c, .int .i64 i, .int .i64 at', .int .i64 f, .slice pc zs.length cc] w fun e w' => e = .returned (.int .i64 0) ∧ Below w.heap.size w w' := by
  obtain ⟨K, hK⟩ : ∃ K, zs.length = K := ⟨_, rfl⟩
  rw [hK]
  clear hK
  obtain ⟨x0, x1, x2, x3, x4⟩ := h.l.five hi
  simp only [Nat.zero_add] at x0 x1 x2 x3 x4
  rw [ho] at x0
  rw [hr] at x1
  rw [hr1] at x2
  rw [hr2'] at x3
  rw [him] at x4
  have B1 : Below w.heap.size w (w.alloc (.cells #[.int .i64 op, .int .i64 2, .int .i64 2, .int .i64 r2, .int .i64 im] 124)) := (Below.refl _ _).alloc (Nat.le_refl _) _
  have hh := h.below B1
  have xx : XIs (w.alloc (.cells #[.int .i64 op, .int .i64 2, .int .i64 2, .int .i64 r2, .int .i64 im] 124)) w.heap.size op 2 2 r2 im := ⟨by simp, by simp, by simp, by simp, by simp⟩
  have BB : Hid (Below w.heap.size w (w.alloc (.cells #[.int .i64 op, .int .i64 2, .int .i64 2, .int .i64 r2, .int .i64 im] 124))) := B1
  have hsub : ((i : Int) - 1) = ((j : Nat) : Int) := by omega
  have hsh := fun w' => specShs op f4 fc fg fh w' hsq
  clear B1 h hsq hj ho hr hr1 hr2' him
  have wd := fun w' => specWidIn op w' hop.1 hop.2
  rw [hwn] at wd
  have hwz : ¬ wn = 0 := by omega
  go_enter Tryz.func89, Tryz.ntmps89
  go_wp2_with (go_at_call 107; refine (wd _).mono ?_; rintro e w' ⟨rfl, rfl⟩)
  refine (hsh _).mono ?_
  rintro e w2 ⟨rfl, hb2⟩
  have B2 : Hid (Below _ _ w2) := BB.out.trans (hb2.mono BB.out.size)
  have hh2 := hh.below hb2
  have xx2 := xx.below hb2
  have y1 := xx2.x1
  have y2 := xx2.x2
  have y4 := xx2.x4
  have hfd := shField0 f4 fc fg fh w2
  clear hb2 hh xx BB hsh x0 x1 x2 x3 x4
  go_wp2_with fail
  try rw [hsub]
  refine (Eb _ hh2).mono ?_
  rintro e w3 ⟨rfl, hb3⟩
  have B3 : Hid (Below _ _ w3) := B2.out.trans (hb3.mono B2.out.size)
  have hh3 := hh2.below hb3
  have xx3 := xx2.below hb3
  clear y1 y2 y4 hb3 hh2 xx2 B2
  have y1 := xx3.x1
  have y2 := xx3.x2
  have y4 := xx3.x4
  go_wp2_with fail
  try rw [hsub]
  refine (Ea _ hh3).mono ?_
  rintro e w4 ⟨rfl, hb4⟩
  have B4 : Hid (Below _ _ w4) := B3.out.trans (hb4.mono B3.out.size)
  have hh4 := hh3.below hb4
  have xx4 := xx3.below hb4
  clear y1 y2 y4 hb4 hh3 xx3 B3
  have y1 := xx4.x1
  have y2 := xx4.x2
  have y4 := xx4.x4
  go_wp2_with fail
  all_goals first
    | (go_ret; exact ⟨rfl, B4.out⟩)
    | (rename_i hx; exfalso; have hy := hx.2; rw [hm3] at hy; cases hy)

set_option maxRecDepth 100000 in
set_option maxHeartbeats 8000000 in
theorem inT3 (i j : Nat) (op rd r2 im f4 fc fg fh wn : Int) (b : Bool) (w : World) (h : MdIs w g N R pc zs) (hi : i < N) (h2 : 2 ≤ i) (hN : N ≤ 64) (hj : i - 1 = j) (f0 : 16 ≤ f) (f1 : f ≤ 128)
    (ho : R (i * 5) = op) (hr : R (i * 5 + 1) = rd) (hr1 : R (i * 5 + 2) = 2) (hr2' : R (i * 5 + 3) = r2) (him : R (i * 5 + 4) = im) (h4b : (op == 4) = false) (h3b : (op == 3) = false) (hsq : shT op = ⟨f4, fc, fg, fh⟩) (hf4b : (f4 == 4) = false)
    (Ea : ∀ w', MdIs w' g N R pc zs → Calls Tryz.prog 108 #[.slice (some ⟨g, 0, none⟩) N c, .int .i64 (i : Nat), .int .i64 f] w' fun e w'' => e = .returned (.bool true) ∧ Below w'.heap.size w' w'')
    (Eb : ∀ w', MdIs w' g N R pc zs → Calls Tryz.prog 108 #[.slice (some ⟨g, 0, none⟩) N c, .int .i64 (j : Nat), .int .i64 f] w' fun e w'' => e = .returned (.bool b) ∧ Below w'.heap.size w' w'')
    (hop : 11 ≤ op ∧ op ≤ 21) (hwn : wdN op = wn) (hw0 : 0 < wn) (hw8 : wn ≤ 8) (g1 : (rd == 1) = false) (g2 : (rd == 2) = false) :
    Calls Tryz.prog 89 #[.slice (some ⟨g, 0, none⟩) N c, .int .i64 i, .int .i64 at', .int .i64 f, .slice pc zs.length cc] w fun e w' => e = .returned (.int .i64 0) ∧ Below w.heap.size w w' := by
  obtain ⟨K, hK⟩ : ∃ K, zs.length = K := ⟨_, rfl⟩
  rw [hK]
  clear hK
  obtain ⟨x0, x1, x2, x3, x4⟩ := h.l.five hi
  simp only [Nat.zero_add] at x0 x1 x2 x3 x4
  rw [ho] at x0
  rw [hr] at x1
  rw [hr1] at x2
  rw [hr2'] at x3
  rw [him] at x4
  have B1 : Below w.heap.size w (w.alloc (.cells #[.int .i64 op, .int .i64 rd, .int .i64 2, .int .i64 r2, .int .i64 im] 124)) := (Below.refl _ _).alloc (Nat.le_refl _) _
  have hh := h.below B1
  have xx : XIs (w.alloc (.cells #[.int .i64 op, .int .i64 rd, .int .i64 2, .int .i64 r2, .int .i64 im] 124)) w.heap.size op rd 2 r2 im := ⟨by simp, by simp, by simp, by simp, by simp⟩
  have BB : Hid (Below w.heap.size w (w.alloc (.cells #[.int .i64 op, .int .i64 rd, .int .i64 2, .int .i64 r2, .int .i64 im] 124))) := B1
  have hsub : ((i : Int) - 1) = ((j : Nat) : Int) := by omega
  have hsh := fun w' => specShs op f4 fc fg fh w' hsq
  clear B1 h hsq hj ho hr hr1 hr2' him
  have wd := fun w' => specWidIn op w' hop.1 hop.2
  rw [hwn] at wd
  have hwz : ¬ wn = 0 := by omega
  go_enter Tryz.func89, Tryz.ntmps89
  go_wp2_with (go_at_call 107; refine (wd _).mono ?_; rintro e w' ⟨rfl, rfl⟩)
  refine (hsh _).mono ?_
  rintro e w2 ⟨rfl, hb2⟩
  have B2 : Hid (Below _ _ w2) := BB.out.trans (hb2.mono BB.out.size)
  have hh2 := hh.below hb2
  have xx2 := xx.below hb2
  have y1 := xx2.x1
  have y2 := xx2.x2
  have y4 := xx2.x4
  have hfd := shField0 f4 fc fg fh w2
  clear hb2 hh xx BB hsh x0 x1 x2 x3 x4
  go_wp2_with fail
  try rw [hsub]
  refine (Ea _ hh2).mono ?_
  rintro e w3 ⟨rfl, hb3⟩
  have B3 : Hid (Below _ _ w3) := B2.out.trans (hb3.mono B2.out.size)
  have hh3 := hh2.below hb3
  have xx3 := xx2.below hb3
  clear y1 y2 y4 hb3 hh2 xx2 B2
  have y1 := xx3.x1
  have y2 := xx3.x2
  have y4 := xx3.x4
  go_wp2_with fail
  all_goals first
    | (go_ret; exact ⟨rfl, B3.out⟩)
    | (rename_i hx; exfalso; have hy := hx.2; rw [hm3] at hy; cases hy)

set_option maxRecDepth 100000 in
set_option maxHeartbeats 8000000 in
theorem inNeg2 (i j : Nat) (op r2 im f4 fc fg fh wn : Int) (w : World) (h : MdIs w g N R pc zs) (hi : i < N) (h2 : 2 ≤ i) (hN : N ≤ 64) (hj : i - 1 = j) (f0 : 16 ≤ f) (f1 : f ≤ 128)
    (ho : R (i * 5) = op) (hr : R (i * 5 + 1) = 2) (hr1 : R (i * 5 + 2) = 2) (hr2' : R (i * 5 + 3) = r2) (him : R (i * 5 + 4) = im) (h4b : (op == 4) = false) (h3b : (op == 3) = false) (hsq : shT op = ⟨f4, fc, fg, fh⟩) (hf4b : (f4 == 4) = false)
    (Ea : ∀ w', MdIs w' g N R pc zs → Calls Tryz.prog 108 #[.slice (some ⟨g, 0, none⟩) N c, .int .i64 (i : Nat), .int .i64 f] w' fun e w'' => e = .returned (.bool false) ∧ Below w'.heap.size w' w'')
    (Eb : ∀ w', MdIs w' g N R pc zs → Calls Tryz.prog 108 #[.slice (some ⟨g, 0, none⟩) N c, .int .i64 (j : Nat), .int .i64 f] w' fun e w'' => e = .returned (.bool true) ∧ Below w'.heap.size w' w'')
    (hop : 11 ≤ op ∧ op ≤ 21) (hwn : wdN op = wn) (hw0 : 0 < wn) (hw8 : wn ≤ 8) (hin : im < 0) :
    Calls Tryz.prog 89 #[.slice (some ⟨g, 0, none⟩) N c, .int .i64 i, .int .i64 at', .int .i64 f, .slice pc zs.length cc] w fun e w' => e = .returned (.int .i64 17) ∧ Below w.heap.size w w' := by
  obtain ⟨K, hK⟩ : ∃ K, zs.length = K := ⟨_, rfl⟩
  rw [hK]
  clear hK
  obtain ⟨x0, x1, x2, x3, x4⟩ := h.l.five hi
  simp only [Nat.zero_add] at x0 x1 x2 x3 x4
  rw [ho] at x0
  rw [hr] at x1
  rw [hr1] at x2
  rw [hr2'] at x3
  rw [him] at x4
  have B1 : Below w.heap.size w (w.alloc (.cells #[.int .i64 op, .int .i64 2, .int .i64 2, .int .i64 r2, .int .i64 im] 124)) := (Below.refl _ _).alloc (Nat.le_refl _) _
  have hh := h.below B1
  have xx : XIs (w.alloc (.cells #[.int .i64 op, .int .i64 2, .int .i64 2, .int .i64 r2, .int .i64 im] 124)) w.heap.size op 2 2 r2 im := ⟨by simp, by simp, by simp, by simp, by simp⟩
  have BB : Hid (Below w.heap.size w (w.alloc (.cells #[.int .i64 op, .int .i64 2, .int .i64 2, .int .i64 r2, .int .i64 im] 124))) := B1
  have hsub : ((i : Int) - 1) = ((j : Nat) : Int) := by omega
  have hsh := fun w' => specShs op f4 fc fg fh w' hsq
  clear B1 h hsq hj ho hr hr1 hr2' him
  have wd := fun w' => specWidIn op w' hop.1 hop.2
  rw [hwn] at wd
  have hwz : ¬ wn = 0 := by omega
  go_enter Tryz.func89, Tryz.ntmps89
  go_wp2_with (go_at_call 107; refine (wd _).mono ?_; rintro e w' ⟨rfl, rfl⟩)
  refine (hsh _).mono ?_
  rintro e w2 ⟨rfl, hb2⟩
  have B2 : Hid (Below _ _ w2) := BB.out.trans (hb2.mono BB.out.size)
  have hh2 := hh.below hb2
  have xx2 := xx.below hb2
  have y1 := xx2.x1
  have y2 := xx2.x2
  have y4 := xx2.x4
  have hfd := shField0 f4 fc fg fh w2
  clear hb2 hh xx BB hsh x0 x1 x2 x3 x4
  go_wp2_with fail
  try rw [hsub]
  refine (Eb _ hh2).mono ?_
  rintro e w3 ⟨rfl, hb3⟩
  have B3 : Hid (Below _ _ w3) := B2.out.trans (hb3.mono B2.out.size)
  have hh3 := hh2.below hb3
  have xx3 := xx2.below hb3
  clear y1 y2 y4 hb3 hh2 xx2 B2
  have y1 := xx3.x1
  have y2 := xx3.x2
  have y4 := xx3.x4
  go_wp2_with fail
  try rw [hsub]
  refine (Ea _ hh3).mono ?_
  rintro e w4 ⟨rfl, hb4⟩
  have B4 : Hid (Below _ _ w4) := B3.out.trans (hb4.mono B3.out.size)
  have hh4 := hh3.below hb4
  have xx4 := xx3.below hb4
  clear y1 y2 y4 hb4 hh3 xx3 B3
  have y1 := xx4.x1
  have y2 := xx4.x2
  have y4 := xx4.x4
  go_wp2_with fail
  all_goals first
    | (go_ret; exact ⟨rfl, B4.out⟩)
    | (rename_i hx; exfalso; have hy := hx.2; rw [hm3] at hy; cases hy)

set_option maxRecDepth 100000 in
set_option maxHeartbeats 8000000 in
theorem inNeg3 (i j : Nat) (op rd r2 im f4 fc fg fh wn : Int) (b : Bool) (w : World) (h : MdIs w g N R pc zs) (hi : i < N) (h2 : 2 ≤ i) (hN : N ≤ 64) (hj : i - 1 = j) (f0 : 16 ≤ f) (f1 : f ≤ 128)
    (ho : R (i * 5) = op) (hr : R (i * 5 + 1) = rd) (hr1 : R (i * 5 + 2) = 2) (hr2' : R (i * 5 + 3) = r2) (him : R (i * 5 + 4) = im) (h4b : (op == 4) = false) (h3b : (op == 3) = false) (hsq : shT op = ⟨f4, fc, fg, fh⟩) (hf4b : (f4 == 4) = false)
    (Ea : ∀ w', MdIs w' g N R pc zs → Calls Tryz.prog 108 #[.slice (some ⟨g, 0, none⟩) N c, .int .i64 (i : Nat), .int .i64 f] w' fun e w'' => e = .returned (.bool false) ∧ Below w'.heap.size w' w'')
    (Eb : ∀ w', MdIs w' g N R pc zs → Calls Tryz.prog 108 #[.slice (some ⟨g, 0, none⟩) N c, .int .i64 (j : Nat), .int .i64 f] w' fun e w'' => e = .returned (.bool b) ∧ Below w'.heap.size w' w'')
    (hop : 11 ≤ op ∧ op ≤ 21) (hwn : wdN op = wn) (hw0 : 0 < wn) (hw8 : wn ≤ 8) (hin : im < 0) (g1 : (rd == 1) = false) (g2 : (rd == 2) = false) :
    Calls Tryz.prog 89 #[.slice (some ⟨g, 0, none⟩) N c, .int .i64 i, .int .i64 at', .int .i64 f, .slice pc zs.length cc] w fun e w' => e = .returned (.int .i64 17) ∧ Below w.heap.size w w' := by
  obtain ⟨K, hK⟩ : ∃ K, zs.length = K := ⟨_, rfl⟩
  rw [hK]
  clear hK
  obtain ⟨x0, x1, x2, x3, x4⟩ := h.l.five hi
  simp only [Nat.zero_add] at x0 x1 x2 x3 x4
  rw [ho] at x0
  rw [hr] at x1
  rw [hr1] at x2
  rw [hr2'] at x3
  rw [him] at x4
  have B1 : Below w.heap.size w (w.alloc (.cells #[.int .i64 op, .int .i64 rd, .int .i64 2, .int .i64 r2, .int .i64 im] 124)) := (Below.refl _ _).alloc (Nat.le_refl _) _
  have hh := h.below B1
  have xx : XIs (w.alloc (.cells #[.int .i64 op, .int .i64 rd, .int .i64 2, .int .i64 r2, .int .i64 im] 124)) w.heap.size op rd 2 r2 im := ⟨by simp, by simp, by simp, by simp, by simp⟩
  have BB : Hid (Below w.heap.size w (w.alloc (.cells #[.int .i64 op, .int .i64 rd, .int .i64 2, .int .i64 r2, .int .i64 im] 124))) := B1
  have hsub : ((i : Int) - 1) = ((j : Nat) : Int) := by omega
  have hsh := fun w' => specShs op f4 fc fg fh w' hsq
  clear B1 h hsq hj ho hr hr1 hr2' him
  have wd := fun w' => specWidIn op w' hop.1 hop.2
  rw [hwn] at wd
  have hwz : ¬ wn = 0 := by omega
  go_enter Tryz.func89, Tryz.ntmps89
  go_wp2_with (go_at_call 107; refine (wd _).mono ?_; rintro e w' ⟨rfl, rfl⟩)
  refine (hsh _).mono ?_
  rintro e w2 ⟨rfl, hb2⟩
  have B2 : Hid (Below _ _ w2) := BB.out.trans (hb2.mono BB.out.size)
  have hh2 := hh.below hb2
  have xx2 := xx.below hb2
  have y1 := xx2.x1
  have y2 := xx2.x2
  have y4 := xx2.x4
  have hfd := shField0 f4 fc fg fh w2
  clear hb2 hh xx BB hsh x0 x1 x2 x3 x4
  go_wp2_with fail
  try rw [hsub]
  refine (Ea _ hh2).mono ?_
  rintro e w3 ⟨rfl, hb3⟩
  have B3 : Hid (Below _ _ w3) := B2.out.trans (hb3.mono B2.out.size)
  have hh3 := hh2.below hb3
  have xx3 := xx2.below hb3
  clear y1 y2 y4 hb3 hh2 xx2 B2
  have y1 := xx3.x1
  have y2 := xx3.x2
  have y4 := xx3.x4
  go_wp2_with fail
  all_goals first
    | (go_ret; exact ⟨rfl, B3.out⟩)
    | (rename_i hx; exfalso; have hy := hx.2; rw [hm3] at hy; cases hy)

end
end Go.Proofs.YthihlbfmpkjhpaaGreatDoor

namespace Go.Proofs.YthihlbfmpkjhpaaGreatDoor
open Go Go.RowKit
set_option linter.unusedVariables false

section
variable {g N c : Nat} {pc : Option Addr} {cc : Nat} {at' f : Int} {R : Nat → Int} {zs : List Int}
set_option maxRecDepth 100000 in
set_option maxHeartbeats 8000000 in
theorem inBig2 (i j : Nat) (op r2 im f4 fc fg fh wn : Int) (w : World) (h : MdIs w g N R pc zs) (hi : i < N) (h2 : 2 ≤ i) (hN : N ≤ 64) (hj : i - 1 = j) (f0 : 16 ≤ f) (f1 : f ≤ 128)
    (ho : R (i * 5) = op) (hr : R (i * 5 + 1) = 2) (hr1 : R (i * 5 + 2) = 2) (hr2' : R (i * 5 + 3) = r2) (him : R (i * 5 + 4) = im) (h4b : (op == 4) = false) (h3b : (op == 3) = false) (hsq : shT op = ⟨f4, fc, fg, fh⟩) (hf4b : (f4 == 4) = false)
    (Ea : ∀ w', MdIs w' g N R pc zs → Calls Tryz.prog 108 #[.slice (some ⟨g, 0, none⟩) N c, .int .i64 (i : Nat), .int .i64 f] w' fun e w'' => e = .returned (.bool false) ∧ Below w'.heap.size w' w'')
    (Eb : ∀ w', MdIs w' g N R pc zs → Calls Tryz.prog 108 #[.slice (some ⟨g, 0, none⟩) N c, .int .i64 (j : Nat), .int .i64 f] w' fun e w'' => e = .returned (.bool true) ∧ Below w'.heap.size w' w'')
    (hop : 11 ≤ op ∧ op ≤ 21) (hwn : wdN op = wn) (hw0 : 0 < wn) (hw8 : wn ≤ 8) (hin : ¬ im < 0) (hig : f - 8 - wn < im) :
    Calls Tryz.prog 89 #[.slice (some ⟨g, 0, none⟩) N c, .int .i64 i, .int .i64 at', .int .i64 f, .slice pc zs.length cc] w fun e w' => e = .returned (.int .i64 17) ∧ Below w.heap.size w w' := by
  obtain ⟨K, hK⟩ : ∃ K, zs.length = K := ⟨_, rfl⟩
  rw [hK]
  clear hK
  obtain ⟨x0, x1, x2, x3, x4⟩ := h.l.five hi
  simp only [Nat.zero_add] at x0 x1 x2 x3 x4
  rw [ho] at x0
  rw [hr] at x1
  rw [hr1] at x2
  rw [hr2'] at x3
  rw [him] at x4
  have B1 : Below w.heap.size w (w.alloc (.cells #[.int .i64 op, .int .i64 2, .int .i64 2, .int .i64 r2, .int .i64 im] 124)) := (Below.refl _ _).alloc (Nat.le_refl _) _
  have hh := h.below B1
  have xx : XIs (w.alloc (.cells #[.int .i64 op, .int .i64 2, .int .i64 2, .int .i64 r2, .int .i64 im] 124)) w.heap.size op 2 2 r2 im := ⟨by simp, by simp, by simp, by simp, by simp⟩
  have BB : Hid (Below w.heap.size w (w.alloc (.cells #[.int .i64 op, .int .i64 2, .int .i64 2, .int .i64 r2, .int .i64 im] 124))) := B1
  have hsub : ((i : Int) - 1) = ((j : Nat) : Int) := by omega
  have hsh := fun w' => specShs op f4 fc fg fh w' hsq
  clear B1 h hsq hj ho hr hr1 hr2' him
  have wd := fun w' => specWidIn op w' hop.1 hop.2
  rw [hwn] at wd
  have hwz : ¬ wn = 0 := by omega
  go_enter Tryz.func89, Tryz.ntmps89
  go_wp2_with (go_at_call 107; refine (wd _).mono ?_; rintro e w' ⟨rfl, rfl⟩)
  refine (hsh _).mono ?_
  rintro e w2 ⟨rfl, hb2⟩
  have B2 : Hid (Below _ _ w2) := BB.out.trans (hb2.mono BB.out.size)
  have hh2 := hh.below hb2
  have xx2 := xx.below hb2
  have y1 := xx2.x1
  have y2 := xx2.x2
  have y4 := xx2.x4
  have hfd := shField0 f4 fc fg fh w2
  clear hb2 hh xx BB hsh x0 x1 x2 x3 x4
  go_wp2_with fail
  try rw [hsub]
  refine (Eb _ hh2).mono ?_
  rintro e w3 ⟨rfl, hb3⟩
  have B3 : Hid (Below _ _ w3) := B2.out.trans (hb3.mono B2.out.size)
  have hh3 := hh2.below hb3
  have xx3 := xx2.below hb3
  clear y1 y2 y4 hb3 hh2 xx2 B2
  have y1 := xx3.x1
  have y2 := xx3.x2
  have y4 := xx3.x4
  go_wp2_with fail
  try rw [hsub]
  refine (Ea _ hh3).mono ?_
  rintro e w4 ⟨rfl, hb4⟩
  have B4 : Hid (Below _ _ w4) := B3.out.trans (hb4.mono B3.out.size)
  have hh4 := hh3.below hb4
  have xx4 := xx3.below hb4
  clear y1 y2 y4 hb4 hh3 xx3 B3
  have y1 := xx4.x1
  have y2 := xx4.x2
  have y4 := xx4.x4
  go_wp2_with fail
  all_goals first
    | (go_ret; exact ⟨rfl, B4.out⟩)
    | (rename_i hx; exfalso; have hy := hx.2; rw [hm3] at hy; cases hy)

set_option maxRecDepth 100000 in
set_option maxHeartbeats 8000000 in
theorem inBig3 (i j : Nat) (op rd r2 im f4 fc fg fh wn : Int) (b : Bool) (w : World) (h : MdIs w g N R pc zs) (hi : i < N) (h2 : 2 ≤ i) (hN : N ≤ 64) (hj : i - 1 = j) (f0 : 16 ≤ f) (f1 : f ≤ 128)
    (ho : R (i * 5) = op) (hr : R (i * 5 + 1) = rd) (hr1 : R (i * 5 + 2) = 2) (hr2' : R (i * 5 + 3) = r2) (him : R (i * 5 + 4) = im) (h4b : (op == 4) = false) (h3b : (op == 3) = false) (hsq : shT op = ⟨f4, fc, fg, fh⟩) (hf4b : (f4 == 4) = false)
    (Ea : ∀ w', MdIs w' g N R pc zs → Calls Tryz.prog 108 #[.slice (some ⟨g, 0, none⟩) N c, .int .i64 (i : Nat), .int .i64 f] w' fun e w'' => e = .returned (.bool false) ∧ Below w'.heap.size w' w'')
    (Eb : ∀ w', MdIs w' g N R pc zs → Calls Tryz.prog 108 #[.slice (some ⟨g, 0, none⟩) N c, .int .i64 (j : Nat), .int .i64 f] w' fun e w'' => e = .returned (.bool b) ∧ Below w'.heap.size w' w'')
    (hop : 11 ≤ op ∧ op ≤ 21) (hwn : wdN op = wn) (hw0 : 0 < wn) (hw8 : wn ≤ 8) (hin : ¬ im < 0) (hig : f - 8 - wn < im) (g1 : (rd == 1) = false) (g2 : (rd == 2) = false) :
    Calls Tryz.prog 89 #[.slice (some ⟨g, 0, none⟩) N c, .int .i64 i, .int .i64 at', .int .i64 f, .slice pc zs.length cc] w fun e w' => e = .returned (.int .i64 17) ∧ Below w.heap.size w w' := by
  obtain ⟨K, hK⟩ : ∃ K, zs.length = K := ⟨_, rfl⟩
  rw [hK]
  clear hK
  obtain ⟨x0, x1, x2, x3, x4⟩ := h.l.five hi
  simp only [Nat.zero_add] at x0 x1 x2 x3 x4
  rw [ho] at x0
  rw [hr] at x1
  rw [hr1] at x2
  rw [hr2'] at x3
  rw [him] at x4
  have B1 : Below w.heap.size w (w.alloc (.cells #[.int .i64 op, .int .i64 rd, .int .i64 2, .int .i64 r2, .int .i64 im] 124)) := (Below.refl _ _).alloc (Nat.le_refl _) _
  have hh := h.below B1
  have xx : XIs (w.alloc (.cells #[.int .i64 op, .int .i64 rd, .int .i64 2, .int .i64 r2, .int .i64 im] 124)) w.heap.size op rd 2 r2 im := ⟨by simp, by simp, by simp, by simp, by simp⟩
  have BB : Hid (Below w.heap.size w (w.alloc (.cells #[.int .i64 op, .int .i64 rd, .int .i64 2, .int .i64 r2, .int .i64 im] 124))) := B1
  have hsub : ((i : Int) - 1) = ((j : Nat) : Int) := by omega
  have hsh := fun w' => specShs op f4 fc fg fh w' hsq
  clear B1 h hsq hj ho hr hr1 hr2' him
  have wd := fun w' => specWidIn op w' hop.1 hop.2
  rw [hwn] at wd
  have hwz : ¬ wn = 0 := by omega
  go_enter Tryz.func89, Tryz.ntmps89
  go_wp2_with (go_at_call 107; refine (wd _).mono ?_; rintro e w' ⟨rfl, rfl⟩)
  refine (hsh _).mono ?_
  rintro e w2 ⟨rfl, hb2⟩
  have B2 : Hid (Below _ _ w2) := BB.out.trans (hb2.mono BB.out.size)
  have hh2 := hh.below hb2
  have xx2 := xx.below hb2
  have y1 := xx2.x1
  have y2 := xx2.x2
  have y4 := xx2.x4
  have hfd := shField0 f4 fc fg fh w2
  clear hb2 hh xx BB hsh x0 x1 x2 x3 x4
  go_wp2_with fail
  try rw [hsub]
  refine (Ea _ hh2).mono ?_
  rintro e w3 ⟨rfl, hb3⟩
  have B3 : Hid (Below _ _ w3) := B2.out.trans (hb3.mono B2.out.size)
  have hh3 := hh2.below hb3
  have xx3 := xx2.below hb3
  clear y1 y2 y4 hb3 hh2 xx2 B2
  have y1 := xx3.x1
  have y2 := xx3.x2
  have y4 := xx3.x4
  go_wp2_with fail
  all_goals first
    | (go_ret; exact ⟨rfl, B3.out⟩)
    | (rename_i hx; exfalso; have hy := hx.2; rw [hm3] at hy; cases hy)

set_option maxRecDepth 100000 in
set_option maxHeartbeats 8000000 in
theorem inFit2 (i j : Nat) (op r2 im f4 fc fg fh wn : Int) (w : World) (h : MdIs w g N R pc zs) (hi : i < N) (h2 : 2 ≤ i) (hN : N ≤ 64) (hj : i - 1 = j) (f0 : 16 ≤ f) (f1 : f ≤ 128)
    (ho : R (i * 5) = op) (hr : R (i * 5 + 1) = 2) (hr1 : R (i * 5 + 2) = 2) (hr2' : R (i * 5 + 3) = r2) (him : R (i * 5 + 4) = im) (h4b : (op == 4) = false) (h3b : (op == 3) = false) (hsq : shT op = ⟨f4, fc, fg, fh⟩) (hf4b : (f4 == 4) = false)
    (Ea : ∀ w', MdIs w' g N R pc zs → Calls Tryz.prog 108 #[.slice (some ⟨g, 0, none⟩) N c, .int .i64 (i : Nat), .int .i64 f] w' fun e w'' => e = .returned (.bool false) ∧ Below w'.heap.size w' w'')
    (Eb : ∀ w', MdIs w' g N R pc zs → Calls Tryz.prog 108 #[.slice (some ⟨g, 0, none⟩) N c, .int .i64 (j : Nat), .int .i64 f] w' fun e w'' => e = .returned (.bool true) ∧ Below w'.heap.size w' w'')
    (hop : 11 ≤ op ∧ op ≤ 21) (hwn : wdN op = wn) (hw0 : 0 < wn) (hw8 : wn ≤ 8) (hin : ¬ im < 0) (hig : ¬ f - 8 - wn < im) (him0 : im % wn = 0) :
    Calls Tryz.prog 89 #[.slice (some ⟨g, 0, none⟩) N c, .int .i64 i, .int .i64 at', .int .i64 f, .slice pc zs.length cc] w fun e w' => e = .returned (.int .i64 0) ∧ Below w.heap.size w w' := by
  obtain ⟨K, hK⟩ : ∃ K, zs.length = K := ⟨_, rfl⟩
  rw [hK]
  clear hK
  obtain ⟨x0, x1, x2, x3, x4⟩ := h.l.five hi
  simp only [Nat.zero_add] at x0 x1 x2 x3 x4
  rw [ho] at x0
  rw [hr] at x1
  rw [hr1] at x2
  rw [hr2'] at x3
  rw [him] at x4
  have B1 : Below w.heap.size w (w.alloc (.cells #[.int .i64 op, .int .i64 2, .int .i64 2, .int .i64 r2, .int .i64 im] 124)) := (Below.refl _ _).alloc (Nat.le_refl _) _
  have hh := h.below B1
  have xx : XIs (w.alloc (.cells #[.int .i64 op, .int .i64 2, .int .i64 2, .int .i64 r2, .int .i64 im] 124)) w.heap.size op 2 2 r2 im := ⟨by simp, by simp, by simp, by simp, by simp⟩
  have BB : Hid (Below w.heap.size w (w.alloc (.cells #[.int .i64 op, .int .i64 2, .int .i64 2, .int .i64 r2, .int .i64 im] 124))) := B1
  have hsub : ((i : Int) - 1) = ((j : Nat) : Int) := by omega
  have hsh := fun w' => specShs op f4 fc fg fh w' hsq
  clear B1 h hsq hj ho hr hr1 hr2' him
  have wd := fun w' => specWidIn op w' hop.1 hop.2
  rw [hwn] at wd
  have hwz : ¬ wn = 0 := by omega
  have hm1 : im.tmod wn = 0 := by rw [Int.tmod_eq_emod_of_nonneg (by omega)]; exact him0
  go_enter Tryz.func89, Tryz.ntmps89
  go_wp2_with (go_at_call 107; refine (wd _).mono ?_; rintro e w' ⟨rfl, rfl⟩)
  refine (hsh _).mono ?_
  rintro e w2 ⟨rfl, hb2⟩
  have B2 : Hid (Below _ _ w2) := BB.out.trans (hb2.mono BB.out.size)
  have hh2 := hh.below hb2
  have xx2 := xx.below hb2
  have y1 := xx2.x1
  have y2 := xx2.x2
  have y4 := xx2.x4
  have hfd := shField0 f4 fc fg fh w2
  clear hb2 hh xx BB hsh x0 x1 x2 x3 x4
  go_wp2_with fail
  try rw [hsub]
  refine (Eb _ hh2).mono ?_
  rintro e w3 ⟨rfl, hb3⟩
  have B3 : Hid (Below _ _ w3) := B2.out.trans (hb3.mono B2.out.size)
  have hh3 := hh2.below hb3
  have xx3 := xx2.below hb3
  clear y1 y2 y4 hb3 hh2 xx2 B2
  have y1 := xx3.x1
  have y2 := xx3.x2
  have y4 := xx3.x4
  go_wp2_with fail
  try rw [hsub]
  refine (Ea _ hh3).mono ?_
  rintro e w4 ⟨rfl, hb4⟩
  have B4 : Hid (Below _ _ w4) := B3.out.trans (hb4.mono B3.out.size)
  have hh4 := hh3.below hb4
  have xx4 := xx3.below hb4
  clear y1 y2 y4 hb4 hh3 xx3 B3
  have y1 := xx4.x1
  have y2 := xx4.x2
  have y4 := xx4.x4
  go_wp2_with fail
  all_goals first
    | (go_ret; exact ⟨rfl, B4.out⟩)
    | (rename_i hx; exfalso; have hy := hx.2; rw [hm3] at hy; cases hy)

end
end Go.Proofs.YthihlbfmpkjhpaaGreatDoor

namespace Go.Proofs.YthihlbfmpkjhpaaGreatDoor
open Go Go.RowKit
set_option linter.unusedVariables false

section
variable {g N c : Nat} {pc : Option Addr} {cc : Nat} {at' f : Int} {R : Nat → Int} {zs : List Int}
set_option maxRecDepth 100000 in
set_option maxHeartbeats 8000000 in
theorem inFit3 (i j : Nat) (op rd r2 im f4 fc fg fh wn : Int) (b : Bool) (w : World) (h : MdIs w g N R pc zs) (hi : i < N) (h2 : 2 ≤ i) (hN : N ≤ 64) (hj : i - 1 = j) (f0 : 16 ≤ f) (f1 : f ≤ 128)
    (ho : R (i * 5) = op) (hr : R (i * 5 + 1) = rd) (hr1 : R (i * 5 + 2) = 2) (hr2' : R (i * 5 + 3) = r2) (him : R (i * 5 + 4) = im) (h4b : (op == 4) = false) (h3b : (op == 3) = false) (hsq : shT op = ⟨f4, fc, fg, fh⟩) (hf4b : (f4 == 4) = false)
    (Ea : ∀ w', MdIs w' g N R pc zs → Calls Tryz.prog 108 #[.slice (some ⟨g, 0, none⟩) N c, .int .i64 (i : Nat), .int .i64 f] w' fun e w'' => e = .returned (.bool false) ∧ Below w'.heap.size w' w'')
    (Eb : ∀ w', MdIs w' g N R pc zs → Calls Tryz.prog 108 #[.slice (some ⟨g, 0, none⟩) N c, .int .i64 (j : Nat), .int .i64 f] w' fun e w'' => e = .returned (.bool b) ∧ Below w'.heap.size w' w'')
    (hop : 11 ≤ op ∧ op ≤ 21) (hwn : wdN op = wn) (hw0 : 0 < wn) (hw8 : wn ≤ 8) (hin : ¬ im < 0) (hig : ¬ f - 8 - wn < im) (him0 : im % wn = 0) (g1 : (rd == 1) = false) (g2 : (rd == 2) = false) :
    Calls Tryz.prog 89 #[.slice (some ⟨g, 0, none⟩) N c, .int .i64 i, .int .i64 at', .int .i64 f, .slice pc zs.length cc] w fun e w' => e = .returned (.int .i64 0) ∧ Below w.heap.size w w' := by
  obtain ⟨K, hK⟩ : ∃ K, zs.length = K := ⟨_, rfl⟩
  rw [hK]
  clear hK
  obtain ⟨x0, x1, x2, x3, x4⟩ := h.l.five hi
  simp only [Nat.zero_add] at x0 x1 x2 x3 x4
  rw [ho] at x0
  rw [hr] at x1
  rw [hr1] at x2
  rw [hr2'] at x3
  rw [him] at x4
  have B1 : Below w.heap.size w (w.alloc (.cells #[.int .i64 op, .int .i64 rd, .int .i64 2, .int .i64 r2, .int .i64 im] 124)) := (Below.refl _ _).alloc (Nat.le_refl _) _
  have hh := h.below B1
  have xx : XIs (w.alloc (.cells #[.int .i64 op, .int .i64 rd, .int .i64 2, .int .i64 r2, .int .i64 im] 124)) w.heap.size op rd 2 r2 im := ⟨by simp, by simp, by simp, by simp, by simp⟩
  have BB : Hid (Below w.heap.size w (w.alloc (.cells #[.int .i64 op, .int .i64 rd, .int .i64 2, .int .i64 r2, .int .i64 im] 124))) := B1
  have hsub : ((i : Int) - 1) = ((j : Nat) : Int) := by omega
  have hsh := fun w' => specShs op f4 fc fg fh w' hsq
  clear B1 h hsq hj ho hr hr1 hr2' him
  have wd := fun w' => specWidIn op w' hop.1 hop.2
  rw [hwn] at wd
  have hwz : ¬ wn = 0 := by omega
  have hm1 : im.tmod wn = 0 := by rw [Int.tmod_eq_emod_of_nonneg (by omega)]; exact him0
  go_enter Tryz.func89, Tryz.ntmps89
  go_wp2_with (go_at_call 107; refine (wd _).mono ?_; rintro e w' ⟨rfl, rfl⟩)
  refine (hsh _).mono ?_
  rintro e w2 ⟨rfl, hb2⟩
  have B2 : Hid (Below _ _ w2) := BB.out.trans (hb2.mono BB.out.size)
  have hh2 := hh.below hb2
  have xx2 := xx.below hb2
  have y1 := xx2.x1
  have y2 := xx2.x2
  have y4 := xx2.x4
  have hfd := shField0 f4 fc fg fh w2
  clear hb2 hh xx BB hsh x0 x1 x2 x3 x4
  go_wp2_with fail
  try rw [hsub]
  refine (Ea _ hh2).mono ?_
  rintro e w3 ⟨rfl, hb3⟩
  have B3 : Hid (Below _ _ w3) := B2.out.trans (hb3.mono B2.out.size)
  have hh3 := hh2.below hb3
  have xx3 := xx2.below hb3
  clear y1 y2 y4 hb3 hh2 xx2 B2
  have y1 := xx3.x1
  have y2 := xx3.x2
  have y4 := xx3.x4
  go_wp2_with fail
  all_goals first
    | (go_ret; exact ⟨rfl, B3.out⟩)
    | (rename_i hx; exfalso; have hy := hx.2; rw [hm3] at hy; cases hy)

set_option maxRecDepth 100000 in
set_option maxHeartbeats 8000000 in
theorem inOdd2 (i j : Nat) (op r2 im f4 fc fg fh wn : Int) (w : World) (h : MdIs w g N R pc zs) (hi : i < N) (h2 : 2 ≤ i) (hN : N ≤ 64) (hj : i - 1 = j) (f0 : 16 ≤ f) (f1 : f ≤ 128)
    (ho : R (i * 5) = op) (hr : R (i * 5 + 1) = 2) (hr1 : R (i * 5 + 2) = 2) (hr2' : R (i * 5 + 3) = r2) (him : R (i * 5 + 4) = im) (h4b : (op == 4) = false) (h3b : (op == 3) = false) (hsq : shT op = ⟨f4, fc, fg, fh⟩) (hf4b : (f4 == 4) = false)
    (Ea : ∀ w', MdIs w' g N R pc zs → Calls Tryz.prog 108 #[.slice (some ⟨g, 0, none⟩) N c, .int .i64 (i : Nat), .int .i64 f] w' fun e w'' => e = .returned (.bool false) ∧ Below w'.heap.size w' w'')
    (Eb : ∀ w', MdIs w' g N R pc zs → Calls Tryz.prog 108 #[.slice (some ⟨g, 0, none⟩) N c, .int .i64 (j : Nat), .int .i64 f] w' fun e w'' => e = .returned (.bool true) ∧ Below w'.heap.size w' w'')
    (hop : 11 ≤ op ∧ op ≤ 21) (hwn : wdN op = wn) (hw0 : 0 < wn) (hw8 : wn ≤ 8) (hin : ¬ im < 0) (hig : ¬ f - 8 - wn < im) (him0 : ¬ im % wn = 0) :
    Calls Tryz.prog 89 #[.slice (some ⟨g, 0, none⟩) N c, .int .i64 i, .int .i64 at', .int .i64 f, .slice pc zs.length cc] w fun e w' => e = .returned (.int .i64 17) ∧ Below w.heap.size w w' := by
  obtain ⟨K, hK⟩ : ∃ K, zs.length = K := ⟨_, rfl⟩
  rw [hK]
  clear hK
  obtain ⟨x0, x1, x2, x3, x4⟩ := h.l.five hi
  simp only [Nat.zero_add] at x0 x1 x2 x3 x4
  rw [ho] at x0
  rw [hr] at x1
  rw [hr1] at x2
  rw [hr2'] at x3
  rw [him] at x4
  have B1 : Below w.heap.size w (w.alloc (.cells #[.int .i64 op, .int .i64 2, .int .i64 2, .int .i64 r2, .int .i64 im] 124)) := (Below.refl _ _).alloc (Nat.le_refl _) _
  have hh := h.below B1
  have xx : XIs (w.alloc (.cells #[.int .i64 op, .int .i64 2, .int .i64 2, .int .i64 r2, .int .i64 im] 124)) w.heap.size op 2 2 r2 im := ⟨by simp, by simp, by simp, by simp, by simp⟩
  have BB : Hid (Below w.heap.size w (w.alloc (.cells #[.int .i64 op, .int .i64 2, .int .i64 2, .int .i64 r2, .int .i64 im] 124))) := B1
  have hsub : ((i : Int) - 1) = ((j : Nat) : Int) := by omega
  have hsh := fun w' => specShs op f4 fc fg fh w' hsq
  clear B1 h hsq hj ho hr hr1 hr2' him
  have wd := fun w' => specWidIn op w' hop.1 hop.2
  rw [hwn] at wd
  have hwz : ¬ wn = 0 := by omega
  have hm0 : ¬ im.tmod wn = 0 := by rw [Int.tmod_eq_emod_of_nonneg (by omega)]; exact him0
  have hm1 : (im.tmod wn == 0) = false := by simpa using hm0
  have hm2 : (im % wn == 0) = false := by simpa using him0
  have hm3 : (im % wn != 0) = true := by simpa using him0
  go_enter Tryz.func89, Tryz.ntmps89
  go_wp2_with (go_at_call 107; refine (wd _).mono ?_; rintro e w' ⟨rfl, rfl⟩)
  refine (hsh _).mono ?_
  rintro e w2 ⟨rfl, hb2⟩
  have B2 : Hid (Below _ _ w2) := BB.out.trans (hb2.mono BB.out.size)
  have hh2 := hh.below hb2
  have xx2 := xx.below hb2
  have y1 := xx2.x1
  have y2 := xx2.x2
  have y4 := xx2.x4
  have hfd := shField0 f4 fc fg fh w2
  clear hb2 hh xx BB hsh x0 x1 x2 x3 x4
  go_wp2_with fail
  try rw [hsub]
  refine (Eb _ hh2).mono ?_
  rintro e w3 ⟨rfl, hb3⟩
  have B3 : Hid (Below _ _ w3) := B2.out.trans (hb3.mono B2.out.size)
  have hh3 := hh2.below hb3
  have xx3 := xx2.below hb3
  clear y1 y2 y4 hb3 hh2 xx2 B2
  have y1 := xx3.x1
  have y2 := xx3.x2
  have y4 := xx3.x4
  go_wp2_with fail
  try rw [hsub]
  refine (Ea _ hh3).mono ?_
  rintro e w4 ⟨rfl, hb4⟩
  have B4 : Hid (Below _ _ w4) := B3.out.trans (hb4.mono B3.out.size)
  have hh4 := hh3.below hb4
  have xx4 := xx3.below hb4
  clear y1 y2 y4 hb4 hh3 xx3 B3
  have y1 := xx4.x1
  have y2 := xx4.x2
  have y4 := xx4.x4
  go_wp2_with fail
  all_goals first
    | (go_ret; exact ⟨rfl, B4.out⟩)
    | (rename_i hx; exfalso; have hy := hx.2; rw [hm3] at hy; cases hy)

set_option maxRecDepth 100000 in
set_option maxHeartbeats 8000000 in
theorem inOdd3 (i j : Nat) (op rd r2 im f4 fc fg fh wn : Int) (b : Bool) (w : World) (h : MdIs w g N R pc zs) (hi : i < N) (h2 : 2 ≤ i) (hN : N ≤ 64) (hj : i - 1 = j) (f0 : 16 ≤ f) (f1 : f ≤ 128)
    (ho : R (i * 5) = op) (hr : R (i * 5 + 1) = rd) (hr1 : R (i * 5 + 2) = 2) (hr2' : R (i * 5 + 3) = r2) (him : R (i * 5 + 4) = im) (h4b : (op == 4) = false) (h3b : (op == 3) = false) (hsq : shT op = ⟨f4, fc, fg, fh⟩) (hf4b : (f4 == 4) = false)
    (Ea : ∀ w', MdIs w' g N R pc zs → Calls Tryz.prog 108 #[.slice (some ⟨g, 0, none⟩) N c, .int .i64 (i : Nat), .int .i64 f] w' fun e w'' => e = .returned (.bool false) ∧ Below w'.heap.size w' w'')
    (Eb : ∀ w', MdIs w' g N R pc zs → Calls Tryz.prog 108 #[.slice (some ⟨g, 0, none⟩) N c, .int .i64 (j : Nat), .int .i64 f] w' fun e w'' => e = .returned (.bool b) ∧ Below w'.heap.size w' w'')
    (hop : 11 ≤ op ∧ op ≤ 21) (hwn : wdN op = wn) (hw0 : 0 < wn) (hw8 : wn ≤ 8) (hin : ¬ im < 0) (hig : ¬ f - 8 - wn < im) (him0 : ¬ im % wn = 0) (g1 : (rd == 1) = false) (g2 : (rd == 2) = false) :
    Calls Tryz.prog 89 #[.slice (some ⟨g, 0, none⟩) N c, .int .i64 i, .int .i64 at', .int .i64 f, .slice pc zs.length cc] w fun e w' => e = .returned (.int .i64 17) ∧ Below w.heap.size w w' := by
  obtain ⟨K, hK⟩ : ∃ K, zs.length = K := ⟨_, rfl⟩
  rw [hK]
  clear hK
  obtain ⟨x0, x1, x2, x3, x4⟩ := h.l.five hi
  simp only [Nat.zero_add] at x0 x1 x2 x3 x4
  rw [ho] at x0
  rw [hr] at x1
  rw [hr1] at x2
  rw [hr2'] at x3
  rw [him] at x4
  have B1 : Below w.heap.size w (w.alloc (.cells #[.int .i64 op, .int .i64 rd, .int .i64 2, .int .i64 r2, .int .i64 im] 124)) := (Below.refl _ _).alloc (Nat.le_refl _) _
  have hh := h.below B1
  have xx : XIs (w.alloc (.cells #[.int .i64 op, .int .i64 rd, .int .i64 2, .int .i64 r2, .int .i64 im] 124)) w.heap.size op rd 2 r2 im := ⟨by simp, by simp, by simp, by simp, by simp⟩
  have BB : Hid (Below w.heap.size w (w.alloc (.cells #[.int .i64 op, .int .i64 rd, .int .i64 2, .int .i64 r2, .int .i64 im] 124))) := B1
  have hsub : ((i : Int) - 1) = ((j : Nat) : Int) := by omega
  have hsh := fun w' => specShs op f4 fc fg fh w' hsq
  clear B1 h hsq hj ho hr hr1 hr2' him
  have wd := fun w' => specWidIn op w' hop.1 hop.2
  rw [hwn] at wd
  have hwz : ¬ wn = 0 := by omega
  have hm0 : ¬ im.tmod wn = 0 := by rw [Int.tmod_eq_emod_of_nonneg (by omega)]; exact him0
  have hm1 : (im.tmod wn == 0) = false := by simpa using hm0
  have hm2 : (im % wn == 0) = false := by simpa using him0
  have hm3 : (im % wn != 0) = true := by simpa using him0
  go_enter Tryz.func89, Tryz.ntmps89
  go_wp2_with (go_at_call 107; refine (wd _).mono ?_; rintro e w' ⟨rfl, rfl⟩)
  refine (hsh _).mono ?_
  rintro e w2 ⟨rfl, hb2⟩
  have B2 : Hid (Below _ _ w2) := BB.out.trans (hb2.mono BB.out.size)
  have hh2 := hh.below hb2
  have xx2 := xx.below hb2
  have y1 := xx2.x1
  have y2 := xx2.x2
  have y4 := xx2.x4
  have hfd := shField0 f4 fc fg fh w2
  clear hb2 hh xx BB hsh x0 x1 x2 x3 x4
  go_wp2_with fail
  try rw [hsub]
  refine (Ea _ hh2).mono ?_
  rintro e w3 ⟨rfl, hb3⟩
  have B3 : Hid (Below _ _ w3) := B2.out.trans (hb3.mono B2.out.size)
  have hh3 := hh2.below hb3
  have xx3 := xx2.below hb3
  clear y1 y2 y4 hb3 hh2 xx2 B2
  have y1 := xx3.x1
  have y2 := xx3.x2
  have y4 := xx3.x4
  go_wp2_with fail
  all_goals first
    | (go_ret; exact ⟨rfl, B3.out⟩)
    | (rename_i hx; exfalso; have hy := hx.2; rw [hm3] at hy; cases hy)

end
end Go.Proofs.YthihlbfmpkjhpaaGreatDoor

namespace Go.Proofs.YthihlbfmpkjhpaaGreatDoor
open Go Go.RowKit
set_option linter.unusedVariables false

section
variable {g N c : Nat} {pc : Option Addr} {cc : Nat} {at' f : Int} {R : Nat → Int} {zs : List Int}
set_option maxRecDepth 100000 in
set_option maxHeartbeats 8000000 in
theorem inN1 (i j : Nat) (op r1 r2 im f4 fc fg fh wn : Int) (b : Bool) (w : World) (h : MdIs w g N R pc zs) (hi : i < N) (h2 : 2 ≤ i) (hN : N ≤ 64) (hj : i - 1 = j) (f0 : 16 ≤ f) (f1 : f ≤ 128)
    (ho : R (i * 5) = op) (hr : R (i * 5 + 1) = 1) (hr1 : R (i * 5 + 2) = r1) (hr2' : R (i * 5 + 3) = r2) (him : R (i * 5 + 4) = im) (h4b : (op == 4) = false) (h3b : (op == 3) = false) (hsq : shT op = ⟨f4, fc, fg, fh⟩) (hf4b : (f4 == 4) = false)
    (Ea : ∀ w', MdIs w' g N R pc zs → Calls Tryz.prog 108 #[.slice (some ⟨g, 0, none⟩) N c, .int .i64 (i : Nat), .int .i64 f] w' fun e w'' => e = .returned (.bool true) ∧ Below w'.heap.size w' w'')
    (Eb : ∀ w', MdIs w' g N R pc zs → Calls Tryz.prog 108 #[.slice (some ⟨g, 0, none⟩) N c, .int .i64 (j : Nat), .int .i64 f] w' fun e w'' => e = .returned (.bool b) ∧ Below w'.heap.size w' w'')
    (hop : 11 ≤ op ∧ op ≤ 21) (hwn : wdN op = wn) (hw0 : 0 < wn) (hw8 : wn ≤ 8) (hr2 : (r1 == 2) = false) :
    Calls Tryz.prog 89 #[.slice (some ⟨g, 0, none⟩) N c, .int .i64 i, .int .i64 at', .int .i64 f, .slice pc zs.length cc] w fun e w' => e = .returned (.int .i64 0) ∧ Below w.heap.size w w' := by
  obtain ⟨K, hK⟩ : ∃ K, zs.length = K := ⟨_, rfl⟩
  rw [hK]
  clear hK
  obtain ⟨x0, x1, x2, x3, x4⟩ := h.l.five hi
  simp only [Nat.zero_add] at x0 x1 x2 x3 x4
  rw [ho] at x0
  rw [hr] at x1
  rw [hr1] at x2
  rw [hr2'] at x3
  rw [him] at x4
  have B1 : Below w.heap.size w (w.alloc (.cells #[.int .i64 op, .int .i64 1, .int .i64 r1, .int .i64 r2, .int .i64 im] 124)) := (Below.refl _ _).alloc (Nat.le_refl _) _
  have hh := h.below B1
  have xx : XIs (w.alloc (.cells #[.int .i64 op, .int .i64 1, .int .i64 r1, .int .i64 r2, .int .i64 im] 124)) w.heap.size op 1 r1 r2 im := ⟨by simp, by simp, by simp, by simp, by simp⟩
  have BB : Hid (Below w.heap.size w (w.alloc (.cells #[.int .i64 op, .int .i64 1, .int .i64 r1, .int .i64 r2, .int .i64 im] 124))) := B1
  have hsub : ((i : Int) - 1) = ((j : Nat) : Int) := by omega
  have hsh := fun w' => specShs op f4 fc fg fh w' hsq
  clear B1 h hsq hj ho hr hr1 hr2' him
  have wd := fun w' => specWidIn op w' hop.1 hop.2
  rw [hwn] at wd
  have hwz : ¬ wn = 0 := by omega
  go_enter Tryz.func89, Tryz.ntmps89
  go_wp2_with (go_at_call 107; refine (wd _).mono ?_; rintro e w' ⟨rfl, rfl⟩)
  refine (hsh _).mono ?_
  rintro e w2 ⟨rfl, hb2⟩
  have B2 : Hid (Below _ _ w2) := BB.out.trans (hb2.mono BB.out.size)
  have hh2 := hh.below hb2
  have xx2 := xx.below hb2
  have y1 := xx2.x1
  have y2 := xx2.x2
  have y4 := xx2.x4
  have hfd := shField0 f4 fc fg fh w2
  clear hb2 hh xx BB hsh x0 x1 x2 x3 x4
  go_wp2_with fail
  try rw [hsub]
  refine (Ea _ hh2).mono ?_
  rintro e w3 ⟨rfl, hb3⟩
  have B3 : Hid (Below _ _ w3) := B2.out.trans (hb3.mono B2.out.size)
  have hh3 := hh2.below hb3
  have xx3 := xx2.below hb3
  clear y1 y2 y4 hb3 hh2 xx2 B2
  have y1 := xx3.x1
  have y2 := xx3.x2
  have y4 := xx3.x4
  go_wp2_with fail
  all_goals first
    | (go_ret; exact ⟨rfl, B3.out⟩)
    | (rename_i hx; exfalso; have hy := hx.2; rw [hm3] at hy; cases hy)

set_option maxRecDepth 100000 in
set_option maxHeartbeats 8000000 in
theorem inN2 (i j : Nat) (op r1 r2 im f4 fc fg fh wn : Int) (a : Bool) (w : World) (h : MdIs w g N R pc zs) (hi : i < N) (h2 : 2 ≤ i) (hN : N ≤ 64) (hj : i - 1 = j) (f0 : 16 ≤ f) (f1 : f ≤ 128)
    (ho : R (i * 5) = op) (hr : R (i * 5 + 1) = 2) (hr1 : R (i * 5 + 2) = r1) (hr2' : R (i * 5 + 3) = r2) (him : R (i * 5 + 4) = im) (h4b : (op == 4) = false) (h3b : (op == 3) = false) (hsq : shT op = ⟨f4, fc, fg, fh⟩) (hf4b : (f4 == 4) = false)
    (Ea : ∀ w', MdIs w' g N R pc zs → Calls Tryz.prog 108 #[.slice (some ⟨g, 0, none⟩) N c, .int .i64 (i : Nat), .int .i64 f] w' fun e w'' => e = .returned (.bool a) ∧ Below w'.heap.size w' w'')
    (Eb : ∀ w', MdIs w' g N R pc zs → Calls Tryz.prog 108 #[.slice (some ⟨g, 0, none⟩) N c, .int .i64 (j : Nat), .int .i64 f] w' fun e w'' => e = .returned (.bool true) ∧ Below w'.heap.size w' w'')
    (hop : 11 ≤ op ∧ op ≤ 21) (hwn : wdN op = wn) (hw0 : 0 < wn) (hw8 : wn ≤ 8) (hr2 : (r1 == 2) = false) :
    Calls Tryz.prog 89 #[.slice (some ⟨g, 0, none⟩) N c, .int .i64 i, .int .i64 at', .int .i64 f, .slice pc zs.length cc] w fun e w' => e = .returned (.int .i64 0) ∧ Below w.heap.size w w' := by
  obtain ⟨K, hK⟩ : ∃ K, zs.length = K := ⟨_, rfl⟩
  rw [hK]
  clear hK
  obtain ⟨x0, x1, x2, x3, x4⟩ := h.l.five hi
  simp only [Nat.zero_add] at x0 x1 x2 x3 x4
  rw [ho] at x0
  rw [hr] at x1
  rw [hr1] at x2
  rw [hr2'] at x3
  rw [him] at x4
  have B1 : Below w.heap.size w (w.alloc (.cells #[.int .i64 op, .int .i64 2, .int .i64 r1, .int .i64 r2, .int .i64 im] 124)) := (Below.refl _ _).alloc (Nat.le_refl _) _
  have hh := h.below B1
  have xx : XIs (w.alloc (.cells #[.int .i64 op, .int .i64 2, .int .i64 r1, .int .i64 r2, .int .i64 im] 124)) w.heap.size op 2 r1 r2 im := ⟨by simp, by simp, by simp, by simp, by simp⟩
  have BB : Hid (Below w.heap.size w (w.alloc (.cells #[.int .i64 op, .int .i64 2, .int .i64 r1, .int .i64 r2, .int .i64 im] 124))) := B1
  have hsub : ((i : Int) - 1) = ((j : Nat) : Int) := by omega
  have hsh := fun w' => specShs op f4 fc fg fh w' hsq
  clear B1 h hsq hj ho hr hr1 hr2' him
  have wd := fun w' => specWidIn op w' hop.1 hop.2
  rw [hwn] at wd
  have hwz : ¬ wn = 0 := by omega
  go_enter Tryz.func89, Tryz.ntmps89
  go_wp2_with (go_at_call 107; refine (wd _).mono ?_; rintro e w' ⟨rfl, rfl⟩)
  refine (hsh _).mono ?_
  rintro e w2 ⟨rfl, hb2⟩
  have B2 : Hid (Below _ _ w2) := BB.out.trans (hb2.mono BB.out.size)
  have hh2 := hh.below hb2
  have xx2 := xx.below hb2
  have y1 := xx2.x1
  have y2 := xx2.x2
  have y4 := xx2.x4
  have hfd := shField0 f4 fc fg fh w2
  clear hb2 hh xx BB hsh x0 x1 x2 x3 x4
  go_wp2_with fail
  try rw [hsub]
  refine (Eb _ hh2).mono ?_
  rintro e w3 ⟨rfl, hb3⟩
  have B3 : Hid (Below _ _ w3) := B2.out.trans (hb3.mono B2.out.size)
  have hh3 := hh2.below hb3
  have xx3 := xx2.below hb3
  clear y1 y2 y4 hb3 hh2 xx2 B2
  have y1 := xx3.x1
  have y2 := xx3.x2
  have y4 := xx3.x4
  go_wp2_with fail
  all_goals first
    | (go_ret; exact ⟨rfl, B3.out⟩)
    | (rename_i hx; exfalso; have hy := hx.2; rw [hm3] at hy; cases hy)

set_option maxRecDepth 100000 in
set_option maxHeartbeats 8000000 in
theorem inN3 (i j : Nat) (op rd r1 r2 im f4 fc fg fh wn : Int) (a b : Bool) (w : World) (h : MdIs w g N R pc zs) (hi : i < N) (h2 : 2 ≤ i) (hN : N ≤ 64) (hj : i - 1 = j) (f0 : 16 ≤ f) (f1 : f ≤ 128)
    (ho : R (i * 5) = op) (hr : R (i * 5 + 1) = rd) (hr1 : R (i * 5 + 2) = r1) (hr2' : R (i * 5 + 3) = r2) (him : R (i * 5 + 4) = im) (h4b : (op == 4) = false) (h3b : (op == 3) = false) (hsq : shT op = ⟨f4, fc, fg, fh⟩) (hf4b : (f4 == 4) = false)
    (Ea : ∀ w', MdIs w' g N R pc zs → Calls Tryz.prog 108 #[.slice (some ⟨g, 0, none⟩) N c, .int .i64 (i : Nat), .int .i64 f] w' fun e w'' => e = .returned (.bool a) ∧ Below w'.heap.size w' w'')
    (Eb : ∀ w', MdIs w' g N R pc zs → Calls Tryz.prog 108 #[.slice (some ⟨g, 0, none⟩) N c, .int .i64 (j : Nat), .int .i64 f] w' fun e w'' => e = .returned (.bool b) ∧ Below w'.heap.size w' w'')
    (hop : 11 ≤ op ∧ op ≤ 21) (hwn : wdN op = wn) (hw0 : 0 < wn) (hw8 : wn ≤ 8) (hr2 : (r1 == 2) = false) (g1 : (rd == 1) = false) (g2 : (rd == 2) = false) :
    Calls Tryz.prog 89 #[.slice (some ⟨g, 0, none⟩) N c, .int .i64 i, .int .i64 at', .int .i64 f, .slice pc zs.length cc] w fun e w' => e = .returned (.int .i64 0) ∧ Below w.heap.size w w' := by
  obtain ⟨K, hK⟩ : ∃ K, zs.length = K := ⟨_, rfl⟩
  rw [hK]
  clear hK
  obtain ⟨x0, x1, x2, x3, x4⟩ := h.l.five hi
  simp only [Nat.zero_add] at x0 x1 x2 x3 x4
  rw [ho] at x0
  rw [hr] at x1
  rw [hr1] at x2
  rw [hr2'] at x3
  rw [him] at x4
  have B1 : Below w.heap.size w (w.alloc (.cells #[.int .i64 op, .int .i64 rd, .int .i64 r1, .int .i64 r2, .int .i64 im] 124)) := (Below.refl _ _).alloc (Nat.le_refl _) _
  have hh := h.below B1
  have xx : XIs (w.alloc (.cells #[.int .i64 op, .int .i64 rd, .int .i64 r1, .int .i64 r2, .int .i64 im] 124)) w.heap.size op rd r1 r2 im := ⟨by simp, by simp, by simp, by simp, by simp⟩
  have BB : Hid (Below w.heap.size w (w.alloc (.cells #[.int .i64 op, .int .i64 rd, .int .i64 r1, .int .i64 r2, .int .i64 im] 124))) := B1
  have hsub : ((i : Int) - 1) = ((j : Nat) : Int) := by omega
  have hsh := fun w' => specShs op f4 fc fg fh w' hsq
  clear B1 h hsq hj ho hr hr1 hr2' him
  have wd := fun w' => specWidIn op w' hop.1 hop.2
  rw [hwn] at wd
  have hwz : ¬ wn = 0 := by omega
  go_enter Tryz.func89, Tryz.ntmps89
  go_wp2_with (go_at_call 107; refine (wd _).mono ?_; rintro e w' ⟨rfl, rfl⟩)
  refine (hsh _).mono ?_
  rintro e w2 ⟨rfl, hb2⟩
  have B2 : Hid (Below _ _ w2) := BB.out.trans (hb2.mono BB.out.size)
  have hh2 := hh.below hb2
  have xx2 := xx.below hb2
  have y1 := xx2.x1
  have y2 := xx2.x2
  have y4 := xx2.x4
  have hfd := shField0 f4 fc fg fh w2
  clear hb2 hh xx BB hsh x0 x1 x2 x3 x4
  go_wp2_with fail
  all_goals first
    | (go_ret; exact ⟨rfl, B2.out⟩)
    | (rename_i hx; exfalso; have hy := hx.2; rw [hm3] at hy; cases hy)

set_option maxRecDepth 100000 in
set_option maxHeartbeats 8000000 in
theorem out1 (i j : Nat) (op r1 r2 im f4 fc fg fh wn : Int) (b : Bool) (w : World) (h : MdIs w g N R pc zs) (hi : i < N) (h2 : 2 ≤ i) (hN : N ≤ 64) (hj : i - 1 = j) (f0 : 16 ≤ f) (f1 : f ≤ 128)
    (ho : R (i * 5) = op) (hr : R (i * 5 + 1) = 1) (hr1 : R (i * 5 + 2) = r1) (hr2' : R (i * 5 + 3) = r2) (him : R (i * 5 + 4) = im) (h4b : (op == 4) = false) (h3b : (op == 3) = false) (hsq : shT op = ⟨f4, fc, fg, fh⟩) (hf4b : (f4 == 4) = false)
    (Ea : ∀ w', MdIs w' g N R pc zs → Calls Tryz.prog 108 #[.slice (some ⟨g, 0, none⟩) N c, .int .i64 (i : Nat), .int .i64 f] w' fun e w'' => e = .returned (.bool true) ∧ Below w'.heap.size w' w'')
    (Eb : ∀ w', MdIs w' g N R pc zs → Calls Tryz.prog 108 #[.slice (some ⟨g, 0, none⟩) N c, .int .i64 (j : Nat), .int .i64 f] w' fun e w'' => e = .returned (.bool b) ∧ Below w'.heap.size w' w'')
    (o0 : 1 ≤ op) (hop : op < 11 ∨ 21 < op) :
    Calls Tryz.prog 89 #[.slice (some ⟨g, 0, none⟩) N c, .int .i64 i, .int .i64 at', .int .i64 f, .slice pc zs.length cc] w fun e w' => e = .returned (.int .i64 0) ∧ Below w.heap.size w w' := by
  obtain ⟨K, hK⟩ : ∃ K, zs.length = K := ⟨_, rfl⟩
  rw [hK]
  clear hK
  obtain ⟨x0, x1, x2, x3, x4⟩ := h.l.five hi
  simp only [Nat.zero_add] at x0 x1 x2 x3 x4
  rw [ho] at x0
  rw [hr] at x1
  rw [hr1] at x2
  rw [hr2'] at x3
  rw [him] at x4
  have B1 : Below w.heap.size w (w.alloc (.cells #[.int .i64 op, .int .i64 1, .int .i64 r1, .int .i64 r2, .int .i64 im] 124)) := (Below.refl _ _).alloc (Nat.le_refl _) _
  have hh := h.below B1
  have xx : XIs (w.alloc (.cells #[.int .i64 op, .int .i64 1, .int .i64 r1, .int .i64 r2, .int .i64 im] 124)) w.heap.size op 1 r1 r2 im := ⟨by simp, by simp, by simp, by simp, by simp⟩
  have BB : Hid (Below w.heap.size w (w.alloc (.cells #[.int .i64 op, .int .i64 1, .int .i64 r1, .int .i64 r2, .int .i64 im] 124))) := B1
  have hsub : ((i : Int) - 1) = ((j : Nat) : Int) := by omega
  have hsh := fun w' => specShs op f4 fc fg fh w' hsq
  clear B1 h hsq hj ho hr hr1 hr2' him
  have wd := fun w' => specWidOut op w' hop
  go_enter Tryz.func89, Tryz.ntmps89
  go_wp2_with (go_at_call 107; refine (wd _).mono ?_; rintro e w' ⟨rfl, rfl⟩)
  refine (hsh _).mono ?_
  rintro e w2 ⟨rfl, hb2⟩
  have B2 : Hid (Below _ _ w2) := BB.out.trans (hb2.mono BB.out.size)
  have hh2 := hh.below hb2
  have xx2 := xx.below hb2
  have y1 := xx2.x1
  have y2 := xx2.x2
  have y4 := xx2.x4
  have hfd := shField0 f4 fc fg fh w2
  clear hb2 hh xx BB hsh x0 x1 x2 x3 x4
  go_wp2_with fail
  try rw [hsub]
  refine (Ea _ hh2).mono ?_
  rintro e w3 ⟨rfl, hb3⟩
  have B3 : Hid (Below _ _ w3) := B2.out.trans (hb3.mono B2.out.size)
  have hh3 := hh2.below hb3
  have xx3 := xx2.below hb3
  clear y1 y2 y4 hb3 hh2 xx2 B2
  have y1 := xx3.x1
  have y2 := xx3.x2
  have y4 := xx3.x4
  go_wp2_with fail
  all_goals first
    | (go_ret; exact ⟨rfl, B3.out⟩)
    | (rename_i hx; exfalso; have hy := hx.2; rw [hm3] at hy; cases hy)

set_option maxRecDepth 100000 in
set_option maxHeartbeats 8000000 in
theorem out2 (i j : Nat) (op r1 r2 im f4 fc fg fh wn : Int) (a : Bool) (w : World) (h : MdIs w g N R pc zs) (hi : i < N) (h2 : 2 ≤ i) (hN : N ≤ 64) (hj : i - 1 = j) (f0 : 16 ≤ f) (f1 : f ≤ 128)
    (ho : R (i * 5) = op) (hr : R (i * 5 + 1) = 2) (hr1 : R (i * 5 + 2) = r1) (hr2' : R (i * 5 + 3) = r2) (him : R (i * 5 + 4) = im) (h4b : (op == 4) = false) (h3b : (op == 3) = false) (hsq : shT op = ⟨f4, fc, fg, fh⟩) (hf4b : (f4 == 4) = false)
    (Ea : ∀ w', MdIs w' g N R pc zs → Calls Tryz.prog 108 #[.slice (some ⟨g, 0, none⟩) N c, .int .i64 (i : Nat), .int .i64 f] w' fun e w'' => e = .returned (.bool a) ∧ Below w'.heap.size w' w'')
    (Eb : ∀ w', MdIs w' g N R pc zs → Calls Tryz.prog 108 #[.slice (some ⟨g, 0, none⟩) N c, .int .i64 (j : Nat), .int .i64 f] w' fun e w'' => e = .returned (.bool true) ∧ Below w'.heap.size w' w'')
    (o0 : 1 ≤ op) (hop : op < 11 ∨ 21 < op) :
    Calls Tryz.prog 89 #[.slice (some ⟨g, 0, none⟩) N c, .int .i64 i, .int .i64 at', .int .i64 f, .slice pc zs.length cc] w fun e w' => e = .returned (.int .i64 0) ∧ Below w.heap.size w w' := by
  obtain ⟨K, hK⟩ : ∃ K, zs.length = K := ⟨_, rfl⟩
  rw [hK]
  clear hK
  obtain ⟨x0, x1, x2, x3, x4⟩ := h.l.five hi
  simp only [Nat.zero_add] at x0 x1 x2 x3 x4
  rw [ho] at x0
  rw [hr] at x1
  rw [hr1] at x2
  rw [hr2'] at x3
  rw [him] at x4
  have B1 : Below w.heap.size w (w.alloc (.cells #[.int .i64 op, .int .i64 2, .int .i64 r1, .int .i64 r2, .int .i64 im] 124)) := (Below.refl _ _).alloc (Nat.le_refl _) _
  have hh := h.below B1
  have xx : XIs (w.alloc (.cells #[.int .i64 op, .int .i64 2, .int .i64 r1, .int .i64 r2, .int .i64 im] 124)) w.heap.size op 2 r1 r2 im := ⟨by simp, by simp, by simp, by simp, by simp⟩
  have BB : Hid (Below w.heap.size w (w.alloc (.cells #[.int .i64 op, .int .i64 2, .int .i64 r1, .int .i64 r2, .int .i64 im] 124))) := B1
  have hsub : ((i : Int) - 1) = ((j : Nat) : Int) := by omega
  have hsh := fun w' => specShs op f4 fc fg fh w' hsq
  clear B1 h hsq hj ho hr hr1 hr2' him
  have wd := fun w' => specWidOut op w' hop
  go_enter Tryz.func89, Tryz.ntmps89
  go_wp2_with (go_at_call 107; refine (wd _).mono ?_; rintro e w' ⟨rfl, rfl⟩)
  refine (hsh _).mono ?_
  rintro e w2 ⟨rfl, hb2⟩
  have B2 : Hid (Below _ _ w2) := BB.out.trans (hb2.mono BB.out.size)
  have hh2 := hh.below hb2
  have xx2 := xx.below hb2
  have y1 := xx2.x1
  have y2 := xx2.x2
  have y4 := xx2.x4
  have hfd := shField0 f4 fc fg fh w2
  clear hb2 hh xx BB hsh x0 x1 x2 x3 x4
  go_wp2_with fail
  try rw [hsub]
  refine (Eb _ hh2).mono ?_
  rintro e w3 ⟨rfl, hb3⟩
  have B3 : Hid (Below _ _ w3) := B2.out.trans (hb3.mono B2.out.size)
  have hh3 := hh2.below hb3
  have xx3 := xx2.below hb3
  clear y1 y2 y4 hb3 hh2 xx2 B2
  have y1 := xx3.x1
  have y2 := xx3.x2
  have y4 := xx3.x4
  go_wp2_with fail
  all_goals first
    | (go_ret; exact ⟨rfl, B3.out⟩)
    | (rename_i hx; exfalso; have hy := hx.2; rw [hm3] at hy; cases hy)

set_option maxRecDepth 100000 in
set_option maxHeartbeats 8000000 in
theorem out3 (i j : Nat) (op rd r1 r2 im f4 fc fg fh wn : Int) (a b : Bool) (w : World) (h : MdIs w g N R pc zs) (hi : i < N) (h2 : 2 ≤ i) (hN : N ≤ 64) (hj : i - 1 = j) (f0 : 16 ≤ f) (f1 : f ≤ 128)
    (ho : R (i * 5) = op) (hr : R (i * 5 + 1) = rd) (hr1 : R (i * 5 + 2) = r1) (hr2' : R (i * 5 + 3) = r2) (him : R (i * 5 + 4) = im) (h4b : (op == 4) = false) (h3b : (op == 3) = false) (hsq : shT op = ⟨f4, fc, fg, fh⟩) (hf4b : (f4 == 4) = false)
    (Ea : ∀ w', MdIs w' g N R pc zs → Calls Tryz.prog 108 #[.slice (some ⟨g, 0, none⟩) N c, .int .i64 (i : Nat), .int .i64 f] w' fun e w'' => e = .returned (.bool a) ∧ Below w'.heap.size w' w'')
    (Eb : ∀ w', MdIs w' g N R pc zs → Calls Tryz.prog 108 #[.slice (some ⟨g, 0, none⟩) N c, .int .i64 (j : Nat), .int .i64 f] w' fun e w'' => e = .returned (.bool b) ∧ Below w'.heap.size w' w'')
    (o0 : 1 ≤ op) (hop : op < 11 ∨ 21 < op) (g1 : (rd == 1) = false) (g2 : (rd == 2) = false) :
    Calls Tryz.prog 89 #[.slice (some ⟨g, 0, none⟩) N c, .int .i64 i, .int .i64 at', .int .i64 f, .slice pc zs.length cc] w fun e w' => e = .returned (.int .i64 0) ∧ Below w.heap.size w w' := by
  obtain ⟨K, hK⟩ : ∃ K, zs.length = K := ⟨_, rfl⟩
  rw [hK]
  clear hK
  obtain ⟨x0, x1, x2, x3, x4⟩ := h.l.five hi
  simp only [Nat.zero_add] at x0 x1 x2 x3 x4
  rw [ho] at x0
  rw [hr] at x1
  rw [hr1] at x2
  rw [hr2'] at x3
  rw [him] at x4
  have B1 : Below w.heap.size w (w.alloc (.cells #[.int .i64 op, .int .i64 rd, .int .i64 r1, .int .i64 r2, .int .i64 im] 124)) := (Below.refl _ _).alloc (Nat.le_refl _) _
  have hh := h.below B1
  have xx : XIs (w.alloc (.cells #[.int .i64 op, .int .i64 rd, .int .i64 r1, .int .i64 r2, .int .i64 im] 124)) w.heap.size op rd r1 r2 im := ⟨by simp, by simp, by simp, by simp, by simp⟩
  have BB : Hid (Below w.heap.size w (w.alloc (.cells #[.int .i64 op, .int .i64 rd, .int .i64 r1, .int .i64 r2, .int .i64 im] 124))) := B1
  have hsub : ((i : Int) - 1) = ((j : Nat) : Int) := by omega
  have hsh := fun w' => specShs op f4 fc fg fh w' hsq
  clear B1 h hsq hj ho hr hr1 hr2' him
  have wd := fun w' => specWidOut op w' hop
  go_enter Tryz.func89, Tryz.ntmps89
  go_wp2_with (go_at_call 107; refine (wd _).mono ?_; rintro e w' ⟨rfl, rfl⟩)
  refine (hsh _).mono ?_
  rintro e w2 ⟨rfl, hb2⟩
  have B2 : Hid (Below _ _ w2) := BB.out.trans (hb2.mono BB.out.size)
  have hh2 := hh.below hb2
  have xx2 := xx.below hb2
  have y1 := xx2.x1
  have y2 := xx2.x2
  have y4 := xx2.x4
  have hfd := shField0 f4 fc fg fh w2
  clear hb2 hh xx BB hsh x0 x1 x2 x3 x4
  go_wp2_with fail
  all_goals first
    | (go_ret; exact ⟨rfl, B2.out⟩)
    | (rename_i hx; exfalso; have hy := hx.2; rw [hm3] at hy; cases hy)

end
end Go.Proofs.YthihlbfmpkjhpaaGreatDoor

namespace Go.Proofs.YthihlbfmpkjhpaaGreatDoor
open Go Go.RowKit
set_option linter.unusedVariables false

section
variable {g N c : Nat} {pc : Option Addr} {cc : Nat} {at' f : Int} {R : Nat → Int} {zs : List Int}
theorem specRule (i : Nat) (w : World) (h : MdIs w g N R pc zs) (hi : i < N) (h2 : 2 ≤ i) (hN : N ≤ 64) (hf : frB f = true) (a0 : 0 ≤ at') (a1 : at' ≤ 1048575) (hz : zs.length ≤ 1048576) (hs : Small5 R i) :
    Calls Tryz.prog 89 #[.slice (some ⟨g, 0, none⟩) N c, .int .i64 i, .int .i64 at', .int .i64 f, .slice pc zs.length cc] w fun e w' => e = .returned (.int .i64 (ruI R N f at' zs wdN i)) ∧ Below w.heap.size w w' := by
  by_cases h4 : R (i * 5) = 4
  · exact sruJalr i w h hi h2 hN hf a0 a1 hz hs h4
  by_cases h3 : R (i * 5) = 3
  · exact sruJal i w h hi h2 hN hf a0 a1 hz hs h3
  by_cases hbr : 5 ≤ R (i * 5) ∧ R (i * 5) ≤ 10
  · exact sruBr i w h hi h2 hN hf a0 a1 hz hs hbr
  rw [ru_plain h4 h3 hbr]
  obtain ⟨f0, f1, _⟩ := frB_bd hf
  have E := fun (j : Nat) w' (h1 : MdIs w' g N R pc zs) (hj : j < 1000) => specEnds g N c j f R w' h1.lg hf hN hj h1.l
  obtain ⟨op, ho⟩ : ∃ op, R (i * 5) = op := ⟨_, rfl⟩
  obtain ⟨rd, hr⟩ : ∃ rd, R (i * 5 + 1) = rd := ⟨_, rfl⟩
  obtain ⟨r1, hr1⟩ : ∃ r1, R (i * 5 + 2) = r1 := ⟨_, rfl⟩
  obtain ⟨r2, hr2'⟩ : ∃ r2, R (i * 5 + 3) = r2 := ⟨_, rfl⟩
  obtain ⟨im, him⟩ : ∃ im, R (i * 5 + 4) = im := ⟨_, rfl⟩
  have o0 := hs.o0
  have o1 := hs.o1
  rw [ho] at o0 o1 h4 h3 hbr
  have h4b : (op == 4) = false := by simpa using h4
  have h3b : (op == 3) = false := by simpa using h3
  have hfb := form_branch op o0 o1
  obtain ⟨⟨f4, fc, fg, fh⟩, hsq⟩ : ∃ s, shT op = s := ⟨_, rfl⟩
  rw [hsq] at hfb
  have hf4b : (f4 == 4) = false := by
    have : ¬ f4 = 4 := fun e => hbr (hfb.1 e)
    simpa using this
  obtain ⟨j, hj⟩ : ∃ j, i - 1 = j := ⟨_, rfl⟩
  have Ea := fun w' h1 => E i w' h1 (by omega)
  have Eb := fun w' h1 => E j w' h1 (by omega)
  obtain ⟨res, hres⟩ : ∃ res, plI R N f i = res := ⟨_, rfl⟩
  rw [hres]
  unfold plI at hres
  rw [hj] at hres
  obtain ⟨a, ha⟩ : ∃ a, epB R N f i = a := ⟨_, rfl⟩
  obtain ⟨b, hb⟩ : ∃ b, epB R N f j = b := ⟨_, rfl⟩
  rw [ho, hr, hr1, him, ha, hb] at hres
  rw [ha] at Ea
  rw [hb] at Eb
  have hout : ¬ (11 ≤ op ∧ op ≤ 21) → op < 11 ∨ 21 < op := fun h => by omega
  by_cases hbad : (rd = 1 ∧ a = false) ∨ (rd = 2 ∧ b = false)
  · obtain rfl : res = 21 := by rw [← hres, if_pos hbad]
    by_cases hop : 11 ≤ op ∧ op ≤ 21
    · rcases hbad with ⟨rfl, rfl⟩ | ⟨rfl, rfl⟩
      · exact bad1In i j op r1 r2 im f4 fc fg fh (wdN op) b w h hi h2 hN hj f0 f1 ho hr hr1 hr2' him h4b h3b hsq hf4b Ea Eb hop rfl (by have := wd_in hop.1 hop.2; omega) (by have := wd_in hop.1 hop.2; omega)
      · exact bad2In i j op r1 r2 im f4 fc fg fh (wdN op) a w h hi h2 hN hj f0 f1 ho hr hr1 hr2' him h4b h3b hsq hf4b Ea Eb hop rfl (by have := wd_in hop.1 hop.2; omega) (by have := wd_in hop.1 hop.2; omega)
    · rcases hbad with ⟨rfl, rfl⟩ | ⟨rfl, rfl⟩
      · exact bad1Out i j op r1 r2 im f4 fc fg fh 0 b w h hi h2 hN hj f0 f1 ho hr hr1 hr2' him h4b h3b hsq hf4b Ea Eb o0 (hout hop)
      · exact bad2Out i j op r1 r2 im f4 fc fg fh 0 a w h hi h2 hN hj f0 f1 ho hr hr1 hr2' him h4b h3b hsq hf4b Ea Eb o0 (hout hop)
  rw [if_neg hbad] at hres
  have hA : (rd = 1 ∧ a = true) ∨ (rd = 2 ∧ b = true) ∨ ((rd == 1) = false ∧ (rd == 2) = false) := by
    by_cases e1 : rd = 1
    · left
      refine ⟨e1, ?_⟩
      cases a
      · exact absurd (.inl ⟨e1, rfl⟩) hbad
      · rfl
    · by_cases e2 : rd = 2
      · right; left
        refine ⟨e2, ?_⟩
        cases b
        · exact absurd (.inr ⟨e2, rfl⟩) hbad
        · rfl
      · exact .inr (.inr ⟨by simpa using e1, by simpa using e2⟩)
  by_cases hop : 11 ≤ op ∧ op ≤ 21
  · have hw := wd_in hop.1 hop.2
    obtain ⟨wn, hwn⟩ : ∃ wn, wdN op = wn := ⟨_, rfl⟩
    rw [hwn] at hw hres
    have hw0 : 0 < wn := by omega
    have hw8 : wn ≤ 8 := by omega
    by_cases hr2 : r1 = 2
    · subst hr2
      by_cases hat : a = true
      · obtain rfl : res = 0 := by rw [← hres, if_neg]; intro hh; rw [hat] at hh; cases hh.2.2.1
        subst hat
        rcases hA with ⟨rfl, _⟩ | ⟨rfl, rfl⟩ | ⟨g1, g2⟩
        · exact inT1 i j op r2 im f4 fc fg fh wn b w h hi h2 hN hj f0 f1 ho hr hr1 hr2' him h4b h3b hsq hf4b Ea Eb hop hwn hw0 hw8
        · exact inT2 i j op r2 im f4 fc fg fh wn w h hi h2 hN hj f0 f1 ho hr hr1 hr2' him h4b h3b hsq hf4b Ea Eb hop hwn hw0 hw8
        · exact inT3 i j op rd r2 im f4 fc fg fh wn b w h hi h2 hN hj f0 f1 ho hr hr1 hr2' him h4b h3b hsq hf4b Ea Eb hop hwn hw0 hw8 g1 g2
      · have haf : a = false := by
          cases a
          · rfl
          · exact absurd rfl hat
        subst haf
        rcases hA with ⟨_, hx⟩ | hA
        · cases hx
        by_cases hin : im < 0
        · obtain rfl : res = 17 := by rw [← hres, if_pos ⟨hop, rfl, rfl, by omega⟩]
          rcases hA with ⟨rfl, rfl⟩ | ⟨g1, g2⟩
          · exact inNeg2 i j op r2 im f4 fc fg fh wn w h hi h2 hN hj f0 f1 ho hr hr1 hr2' him h4b h3b hsq hf4b Ea Eb hop hwn hw0 hw8 hin
          · exact inNeg3 i j op rd r2 im f4 fc fg fh wn b w h hi h2 hN hj f0 f1 ho hr hr1 hr2' him h4b h3b hsq hf4b Ea Eb hop hwn hw0 hw8 hin g1 g2
        · by_cases hig : f - 8 - wn < im
          · obtain rfl : res = 17 := by rw [← hres, if_pos ⟨hop, rfl, rfl, by omega⟩]
            rcases hA with ⟨rfl, rfl⟩ | ⟨g1, g2⟩
            · exact inBig2 i j op r2 im f4 fc fg fh wn w h hi h2 hN hj f0 f1 ho hr hr1 hr2' him h4b h3b hsq hf4b Ea Eb hop hwn hw0 hw8 hin hig
            · exact inBig3 i j op rd r2 im f4 fc fg fh wn b w h hi h2 hN hj f0 f1 ho hr hr1 hr2' him h4b h3b hsq hf4b Ea Eb hop hwn hw0 hw8 hin hig g1 g2
          · by_cases him0 : im % wn = 0
            · obtain rfl : res = 0 := by rw [← hres, if_neg]; rintro ⟨_, _, _, hh⟩; exact hh ⟨by omega, by omega, him0⟩
              rcases hA with ⟨rfl, rfl⟩ | ⟨g1, g2⟩
              · exact inFit2 i j op r2 im f4 fc fg fh wn w h hi h2 hN hj f0 f1 ho hr hr1 hr2' him h4b h3b hsq hf4b Ea Eb hop hwn hw0 hw8 hin hig him0
              · exact inFit3 i j op rd r2 im f4 fc fg fh wn b w h hi h2 hN hj f0 f1 ho hr hr1 hr2' him h4b h3b hsq hf4b Ea Eb hop hwn hw0 hw8 hin hig him0 g1 g2
            · obtain rfl : res = 17 := by rw [← hres, if_pos ⟨hop, rfl, rfl, fun hh => him0 hh.2.2⟩]
              rcases hA with ⟨rfl, rfl⟩ | ⟨g1, g2⟩
              · exact inOdd2 i j op r2 im f4 fc fg fh wn w h hi h2 hN hj f0 f1 ho hr hr1 hr2' him h4b h3b hsq hf4b Ea Eb hop hwn hw0 hw8 hin hig him0
              · exact inOdd3 i j op rd r2 im f4 fc fg fh wn b w h hi h2 hN hj f0 f1 ho hr hr1 hr2' him h4b h3b hsq hf4b Ea Eb hop hwn hw0 hw8 hin hig him0 g1 g2
    · obtain rfl : res = 0 := by rw [← hres, if_neg]; intro hh; exact hr2 hh.2.1
      have hr2b : (r1 == 2) = false := by simpa using hr2
      rcases hA with ⟨rfl, rfl⟩ | ⟨rfl, rfl⟩ | ⟨g1, g2⟩
      · exact inN1 i j op r1 r2 im f4 fc fg fh wn b w h hi h2 hN hj f0 f1 ho hr hr1 hr2' him h4b h3b hsq hf4b Ea Eb hop hwn hw0 hw8 hr2b
      · exact inN2 i j op r1 r2 im f4 fc fg fh wn a w h hi h2 hN hj f0 f1 ho hr hr1 hr2' him h4b h3b hsq hf4b Ea Eb hop hwn hw0 hw8 hr2b
      · exact inN3 i j op rd r1 r2 im f4 fc fg fh wn a b w h hi h2 hN hj f0 f1 ho hr hr1 hr2' him h4b h3b hsq hf4b Ea Eb hop hwn hw0 hw8 hr2b g1 g2
  · obtain rfl : res = 0 := by rw [← hres, if_neg]; intro hh; exact hop hh.1
    rcases hA with ⟨rfl, rfl⟩ | ⟨rfl, rfl⟩ | ⟨g1, g2⟩
    · exact out1 i j op r1 r2 im f4 fc fg fh 0 b w h hi h2 hN hj f0 f1 ho hr hr1 hr2' him h4b h3b hsq hf4b Ea Eb o0 (hout hop)
    · exact out2 i j op r1 r2 im f4 fc fg fh 0 a w h hi h2 hN hj f0 f1 ho hr hr1 hr2' him h4b h3b hsq hf4b Ea Eb o0 (hout hop)
    · exact out3 i j op rd r1 r2 im f4 fc fg fh 0 a b w h hi h2 hN hj f0 f1 ho hr hr1 hr2' him h4b h3b hsq hf4b Ea Eb o0 (hout hop) g1 g2
end
end Go.Proofs.YthihlbfmpkjhpaaGreatDoor

namespace Go.Proofs.YthihlbfmpkjhpaaGreatDoor
open Go Go.RowKit
set_option linter.unusedVariables false

theorem plB_in (a : Int) : (decide (0 ≤ a ∧ a ≤ 1048575) = true ∧ 0 ≤ a ∧ a ≤ 1048575) ∨ (decide (0 ≤ a ∧ a ≤ 1048575) = false ∧ (a < 0 ∨ 1048575 < a)) := by
  by_cases h : 0 ≤ a ∧ a ≤ 1048575
  · exact .inl ⟨by rw [decide_eq_true_eq]; exact h, h⟩
  · exact .inr ⟨by rw [decide_eq_false_iff_not]; exact h, by omega⟩

section
variable {pc : Option Addr} {cc : Nat}
/-- What the model's check answers ahead of the words. -/
theorem specPlace (s : ByteArray) (a f : Int) (k : Nat) (w : World) (hs : s.size ≤ 65536) (ha : (Lit.int .i64 a).wf = true) (h : plB a = false) :
    Calls Tryz.prog 57 #[.string s, .int .i64 a, .int .i64 f, .slice pc k cc] w fun e w' => TwoN w.heap.size 0 4 w e w' := by
  by_cases h0 : 0 ≤ a ∧ a ≤ 1048575
  · have h1 : ¬ a.tmod 4 = 0 := by
      rw [Int.tmod_eq_emod_of_nonneg h0.1]
      intro e
      simp [plB, h0.1, h0.2, e] at h
    have h2 : ¬ a % 4 = 0 := by
      intro e
      simp [plB, h0.1, h0.2, e] at h
    go_enter Tryz.func57, Tryz.ntmps57
    go_wp2_with (go_at_call 84; refine (spIn _ _ _ _ true (.inl ⟨rfl, h0.1, h0.2⟩)).mono ?_; rintro e w' ⟨rfl, rfl⟩)
    go_ret2
    exact ⟨rfl, Below.refl _ _⟩
  · go_enter Tryz.func57, Tryz.ntmps57
    go_wp2_with (go_at_call 84; refine (spIn _ _ _ _ false (.inr ⟨rfl, by omega⟩)).mono ?_; rintro e w' ⟨rfl, rfl⟩)
    go_ret2
    exact ⟨rfl, Below.refl _ _⟩
theorem plB_yes {a : Int} (h : plB a = true) : 0 ≤ a ∧ a ≤ 1048575 ∧ a % 4 = 0 := by simpa [plB] using h
theorem specFrame (s : ByteArray) (a f : Int) (k : Nat) (w : World) (hs : s.size ≤ 65536) (hf : (Lit.int .i64 f).wf = true) (ha : plB a = true) (h : frB f = false) :
    Calls Tryz.prog 57 #[.string s, .int .i64 a, .int .i64 f, .slice pc k cc] w fun e w' => TwoN w.heap.size 0 17 w e w' := by
  obtain ⟨a0, a1, a2⟩ := plB_yes ha
  go_enter Tryz.func57, Tryz.ntmps57
  go_wp2_with (first | (go_at_call 84; refine (spIn _ _ _ _ true (.inl ⟨rfl, a0, a1⟩)).mono ?_; rintro e w' ⟨rfl, rfl⟩) | (go_at_call 85; refine (frSpec f _ hf).mono ?_; rintro e w' ⟨rfl, rfl⟩; rw [h]))
  go_ret2
  exact ⟨rfl, Below.refl _ _⟩
theorem specSize (s : ByteArray) (a f : Int) (k : Nat) (w : World) (hs : s.size ≤ 65536) (hf : (Lit.int .i64 f).wf = true) (ha : plB a = true) (hfr : frB f = true) (h : ¬ (s.size % 4 = 0 ∧ s.size ≤ 256 ∧ 20 ≤ s.size)) :
    Calls Tryz.prog 57 #[.string s, .int .i64 a, .int .i64 f, .slice pc k cc] w fun e w' => TwoN w.heap.size 0 8 w e w' := by
  obtain ⟨a0, a1, a2⟩ := plB_yes ha
  have hs' : s.size ≤ maxLen := by unfold maxLen; omega
  by_cases h0 : s.size % 4 = 0 ∧ s.size ≤ 256
  · have e : decide (s.size % 4 = 0 ∧ s.size ≤ 256) = true := by rw [decide_eq_true_eq]; exact h0
    have h1 : s.size < 20 := by omega
    go_enter Tryz.func57, Tryz.ntmps57
    go_wp2_with (first | (go_at_call 84; refine (spIn _ _ _ _ true (.inl ⟨rfl, a0, a1⟩)).mono ?_; rintro e w' ⟨rfl, rfl⟩) | (go_at_call 85; refine (frSpec f _ hf).mono ?_; rintro e w' ⟨rfl, rfl⟩; rw [hfr]) | (go_at_call 86; refine (szRun s _ hs').mono ?_; rintro e' w' ⟨rfl, rfl⟩; rw [e]))
    go_ret2
    exact ⟨rfl, Below.refl _ _⟩
  · have e : decide (s.size % 4 = 0 ∧ s.size ≤ 256) = false := by rw [decide_eq_false_iff_not]; exact h0
    go_enter Tryz.func57, Tryz.ntmps57
    go_wp2_with (first | (go_at_call 84; refine (spIn _ _ _ _ true (.inl ⟨rfl, a0, a1⟩)).mono ?_; rintro e w' ⟨rfl, rfl⟩) | (go_at_call 85; refine (frSpec f _ hf).mono ?_; rintro e w' ⟨rfl, rfl⟩; rw [hfr]) | (go_at_call 86; refine (szRun s _ hs').mono ?_; rintro e' w' ⟨rfl, rfl⟩; rw [e]))
    go_ret2
    exact ⟨rfl, Below.refl _ _⟩
theorem specWrong (s : ByteArray) (a f : Int) (k : Nat) (N j : Nat) (R : Nat → Int) (w : World) (hf : (Lit.int .i64 f).wf = true) (ha : plB a = true) (hfr : frB f = true) (h0 : s.size % 4 = 0 ∧ s.size ≤ 256) (h1 : 20 ≤ s.size) (hr : Run s N R j) (hj : j < N) :
    Calls Tryz.prog 57 #[.string s, .int .i64 a, .int .i64 f, .slice pc k cc] w fun e w' => TwoN w.heap.size j 10 w e w' := by
  obtain ⟨a0, a1, a2⟩ := plB_yes ha
  have hs' : s.size ≤ maxLen := by unfold maxLen; omega
  have e : decide (s.size % 4 = 0 ∧ s.size ≤ 256) = true := by rw [decide_eq_true_eq]; exact h0
  go_enter Tryz.func57, Tryz.ntmps57
  go_wp2_with (first | (go_at_call 84; refine (spIn _ _ _ _ true (.inl ⟨rfl, a0, a1⟩)).mono ?_; rintro e w' ⟨rfl, rfl⟩) | (go_at_call 85; refine (frSpec f _ hf).mono ?_; rintro e w' ⟨rfl, rfl⟩; rw [hfr]) | (go_at_call 86; refine (szRun s _ hs').mono ?_; rintro e' w' ⟨rfl, rfl⟩; rw [e]))
  refine (hr.model _).mono ?_
  rintro e2 w2 ⟨⟨p, n, c, x, rfl, ⟨hj', rfl, rfl⟩ | ⟨hj', rfl, rfl⟩, ho⟩, hb⟩
  · exact absurd hj (by omega)
  · have hj0 : (0 : Int) ≤ j := by omega
    go_wp2
    go_ret2
    exact ⟨rfl, hb⟩
end
end Go.Proofs.YthihlbfmpkjhpaaGreatDoor

namespace Go.Proofs.YthihlbfmpkjhpaaGreatDoor
open Go Go.RowKit
set_option linter.unusedVariables false

section
variable {pc : Option Addr} {cc : Nat} {zs : List Int}
set_option maxRecDepth 100000 in
set_option maxHeartbeats 8000000 in
theorem specYes (s : ByteArray) (a f : Int) (N : Nat) (R : Nat → Int) (w : World) (hf : (Lit.int .i64 f).wf = true) (ha : plB a = true) (hfr : frB f = true) (h0 : s.size % 4 = 0 ∧ s.size ≤ 256) (h20 : 20 ≤ s.size) (hr : Run s N R N) (h5 : 5 ≤ N) (h64 : N ≤ 64)
    (hk : zs.length ≤ 1048576) (hz : IntsAt w pc zs) (x y : Int) (hl : LintIs R N f a zs x y) :
    Calls Tryz.prog 57 #[.string s, .int .i64 a, .int .i64 f, .slice pc zs.length cc] w fun e w' => TwoN w.heap.size x y w e w' := by
  obtain ⟨a0, a1, a2⟩ := plB_yes ha
  have hs' : s.size ≤ maxLen := by unfold maxLen; omega
  have e : decide (s.size % 4 = 0 ∧ s.size ≤ 256) = true := by rw [decide_eq_true_eq]; exact h0
  have hsm : ∀ i, i < N → Small5 R i := fun i hi => small_of (hr.right i hi)
  obtain ⟨K, hK⟩ : ∃ K, zs.length = K := ⟨_, rfl⟩
  rw [hK]
  go_enter Tryz.func57, Tryz.ntmps57
  go_wp2_with (first | (go_at_call 84; refine (spIn _ _ _ _ true (.inl ⟨rfl, a0, a1⟩)).mono ?_; rintro e w' ⟨rfl, rfl⟩) | (go_at_call 85; refine (frSpec f _ hf).mono ?_; rintro e w' ⟨rfl, rfl⟩; rw [hfr]) | (go_at_call 86; refine (szRun s _ hs').mono ?_; rintro e' w' ⟨rfl, rfl⟩; rw [e]))
  refine (hr.model _).mono ?_
  rintro e2 w2 ⟨⟨p, n, c, x', rfl, ⟨hj', rfl, rfl⟩ | ⟨hj', rfl, rfl⟩, ho⟩, hb⟩
  rotate_left
  · omega
  rcases ho with ho | ⟨g, rfl, hg0, hg1, hfl⟩
  · omega
  have hm : MdIs w2 g n R pc zs := ⟨hfl.rd, hg1, hz.below hb⟩
  have HB : Hid (Below w'.heap.size w' w2) := hb
  have ru := fun i w' (h : MdIs w' g n R pc zs) (hi : i < n) (h2 : 2 ≤ i) => specRule (g := g) (N := n) (c := c) (pc := pc) (cc := cc) (at' := a) (f := f) (R := R) (zs := zs) i w' h hi h2 h64 hfr a0 a1 hk (hsm i hi)
  rw [hK] at ru
  clear hfl hg0 hb hr hsm e
  go_wp2_with fail
  go_loopw [12] (fun i wr => ∃ m : Nat, m ≤ 2 ∧ i = .int .i64 m ∧ (∀ j, j < m → Eq5 R (proR f) j) ∧ Below w2.heap.size w2 wr) (fun i _ => 2 - (intOf i).toNat)
  case atStart => exact ⟨0, Nat.zero_le _, rfl, fun j h => by omega, Below.refl _ _⟩
  case round =>
    obtain ⟨m, hm2, rfl, hok, hB⟩ := hrel
    have h1 := hm.below hB
    by_cases hlt : m < 2
    · obtain ⟨x0, x1, x2, x3, x4⟩ := h1.l.five (k := m) (by omega)
      simp only [Nat.zero_add] at x0 x1 x2 x3 x4
      have lg1 := h1.lg
      obtain ⟨b0, e0⟩ : ∃ b, proR f (m * 5) = b := ⟨_, rfl⟩
      obtain ⟨b1, e1⟩ : ∃ b, proR f (m * 5 + 1) = b := ⟨_, rfl⟩
      obtain ⟨b2, e2⟩ : ∃ b, proR f (m * 5 + 2) = b := ⟨_, rfl⟩
      obtain ⟨b3, e3⟩ : ∃ b, proR f (m * 5 + 3) = b := ⟨_, rfl⟩
      obtain ⟨b4, e4⟩ : ∃ b, proR f (m * 5 + 4) = b := ⟨_, rfl⟩
      have hgu := guardIns
      have hsm : sm5 (R (m * 5)) (R (m * 5 + 1)) (R (m * 5 + 2)) (R (m * 5 + 3)) (R (m * 5 + 4)) b0 b1 b2 b3 b4 = true ↔ Eq5 R (proR f) m := by
        rw [sm5_iff, ← e0, ← e1, ← e2, ← e3, ← e4]
        unfold Eq5
        constructor
        · rintro ⟨a0, a1, a2, a3, a4⟩ j hj
          match j, hj with
          | 0, _ => exact a0
          | 1, _ => exact a1
          | 2, _ => exact a2
          | 3, _ => exact a3
          | 4, _ => exact a4
        · intro a
          exact ⟨a 0 (by omega), a 1 (by omega), a 2 (by omega), a 3 (by omega), a 4 (by omega)⟩
      have heq := fun w => eqlIns (R (m * 5)) (R (m * 5 + 1)) (R (m * 5 + 2)) (R (m * 5 + 3)) (R (m * 5 + 4)) b0 b1 b2 b3 b4 w
      have hmN : m < n := by omega
      have pro : ∀ w, Hid (Calls Tryz.prog 88 #[.int .i64 f] w fun e w' => ∃ G, e = .returned (.slice (some ⟨G, 0, none⟩) 2 2) ∧ Below w.heap.size w w' ∧ w'.cell? ⟨G, m * 5, none⟩ = some (.int .i64 b0) ∧ w'.cell? ⟨G, m * 5 + 1, none⟩ = some (.int .i64 b1) ∧ w'.cell? ⟨G, m * 5 + 2, none⟩ = some (.int .i64 b2) ∧ w'.cell? ⟨G, m * 5 + 3, none⟩ = some (.int .i64 b3) ∧ w'.cell? ⟨G, m * 5 + 4, none⟩ = some (.int .i64 b4)) := by
        intro w
        refine (proSpec0 f w hfr).mono ?_
        rintro e w1 ⟨G, rfl, hb, hG0, hG1, hfl⟩
        obtain ⟨y0, y1, y2, y3, y4⟩ := hfl.rd.five (k := m) hlt
        simp only [Nat.zero_add] at y0 y1 y2 y3 y4
        rw [e0] at y0
        rw [e1] at y1
        rw [e2] at y2
        rw [e3] at y3
        rw [e4] at y4
        exact ⟨G, rfl, hb, y0, y1, y2, y3, y4⟩
      clear e0 e1 e2 e3 e4
      by_cases hE : Eq5 R (proR f) m
      · rw [hsm.2 hE] at heq
        clear hsm h1
        go_wp2_with fail
        go_region_with ((go_at_call 88; refine ((pro _).out).mono ?_; rintro e w3 ⟨G, rfl, hb3, y0, y1, y2, y3, y4⟩; have B3 : Below wr.heap.size wr w3 := (by first | exact hb3 | exact (Below.refl wr.heap.size wr).drew.trans hb3); have z0 := (B3.cell (p := ⟨g, m * 5, none⟩) lg1).trans x0; have z1 := (B3.cell (p := ⟨g, m * 5 + 1, none⟩) lg1).trans x1; have z2 := (B3.cell (p := ⟨g, m * 5 + 2, none⟩) lg1).trans x2; have z3 := (B3.cell (p := ⟨g, m * 5 + 3, none⟩) lg1).trans x3; have z4 := (B3.cell (p := ⟨g, m * 5 + 4, none⟩) lg1).trans x4))
        all_goals
          go_wp2_with fail
          go_round
          case rel => exact ⟨m + 1, by omega, by go_num, fun j hj => by
            rcases Nat.lt_succ_iff_lt_or_eq.1 hj with h | rfl
            · exact hok j h
            · exact hE, by first | exact hB.trans (B3.mono hB.size) | exact hB.trans ((B3.drew).mono hB.size)⟩
          case measure => simp [intOf]; omega
      · have hs : sm5 (R (m * 5)) (R (m * 5 + 1)) (R (m * 5 + 2)) (R (m * 5 + 3)) (R (m * 5 + 4)) b0 b1 b2 b3 b4 = false := by
          cases e : sm5 (R (m * 5)) (R (m * 5 + 1)) (R (m * 5 + 2)) (R (m * 5 + 3)) (R (m * 5 + 4)) b0 b1 b2 b3 b4
          · rfl
          · exact absurd (hsm.1 e) hE
        obtain ⟨rfl, rfl⟩ : x = ((m : Nat) : Int) ∧ y = 17 := by
          cases hl with
          | head k hk a b =>
            by_cases h1 : k < m
            · exact absurd (hok k h1) b
            · by_cases h2 : m < k
              · exact absurd (a m h2) hE
              · obtain rfl : k = m := by omega
                exact ⟨rfl, rfl⟩
          | last a b => exact absurd (a m hlt) hE
          | rule k a b => exact absurd (a m hlt) hE
          | none a b => exact absurd (a m hlt) hE
        rw [hs] at heq
        clear hsm hs h1 hl
        go_wp2_with fail
        go_region_with ((go_at_call 88; refine ((pro _).out).mono ?_; rintro e w3 ⟨G, rfl, hb3, y0, y1, y2, y3, y4⟩; have B3 : Below wr.heap.size wr w3 := (by first | exact hb3 | exact (Below.refl wr.heap.size wr).drew.trans hb3); have z0 := (B3.cell (p := ⟨g, m * 5, none⟩) lg1).trans x0; have z1 := (B3.cell (p := ⟨g, m * 5 + 1, none⟩) lg1).trans x1; have z2 := (B3.cell (p := ⟨g, m * 5 + 2, none⟩) lg1).trans x2; have z3 := (B3.cell (p := ⟨g, m * 5 + 3, none⟩) lg1).trans x3; have z4 := (B3.cell (p := ⟨g, m * 5 + 4, none⟩) lg1).trans x4))
        all_goals
          go_wp2_with fail
          go_ret2
          exact ⟨rfl, HB.out.trans ((hB.trans (by first | exact B3.mono hB.size | exact (B3.drew).mono hB.size)).mono HB.out.size)⟩
    · obtain rfl : m = 2 := by omega
      obtain ⟨x0, x1, x2, x3, x4⟩ := h1.l.five (k := n - 1) (by omega)
      obtain ⟨l, hl1⟩ : ∃ l, n - 1 = l := ⟨_, rfl⟩
      have hNl : n = l + 1 := by omega
      rw [hl1] at x0 x1 x2 x3 x4
      simp only [Nat.zero_add] at x0 x1 x2 x3 x4
      subst hNl
      clear hl1
      have HW : Hid (Below w'.heap.size w' wr) := HB.out.trans (hB.mono HB.out.size)
      have hlast : EndOK R (l + 1) ↔ R (l * 5) = 4 ∨ (R (l * 5) = 3 ∧ R (l * 5 + 1) = 0) := Iff.rfl
      obtain ⟨op, ho⟩ : ∃ op, R (l * 5) = op := ⟨_, rfl⟩
      obtain ⟨rd, hrd⟩ : ∃ rd, R (l * 5 + 1) = rd := ⟨_, rfl⟩
      rw [ho] at x0 hlast
      rw [hrd] at x1 hlast
      have tail : EndOK R (l + 1) → ∀ (tmps : Array Value) , True := fun _ _ => trivial
      clear tail
      by_cases he : EndOK R (l + 1)
      · have hz' : ∀ m, m < l + 1 → 2 ≤ m → (∀ j, 2 ≤ j → j < m → ruI R (l + 1) f a zs wdN j = 0) → ruI R (l + 1) f a zs wdN m ≠ 0 → x = ((m : Nat) : Int) ∧ y = ruI R (l + 1) f a zs wdN m := by
          intro m hm1 hm2 hru hne
          cases hl with
          | head k hk a b => exact absurd (hok k hk) b
          | last a b => exact absurd he b
          | rule k a b h2 hk hb hn =>
            by_cases hkm : k < m
            · exact absurd (hru k h2 hkm) hn
            · by_cases hmk : m < k
              · exact absurd (hb m hm2 hmk) hne
              · obtain rfl : k = m := by omega
                exact ⟨rfl, rfl⟩
          | none a b hb => exact absurd (hb m hm2 hm1) hne
        have hzz : (∀ j, 2 ≤ j → j < l + 1 → ruI R (l + 1) f a zs wdN j = 0) → x = 0 ∧ y = 0 := by
          intro hru
          cases hl with
          | head k hk a b => exact absurd (hok k hk) b
          | last a b => exact absurd he b
          | rule k a b h2 hk hb hn => exact absurd (hru k h2 hk) hn
          | none a b => exact ⟨rfl, rfl⟩
        have hm3 : MdIs wr g (l + 1) R pc zs := h1
        clear hl h1
        obtain ⟨W1, rfl⟩ : ∃ W1, W1 = wr := ⟨_, rfl⟩
        rcases hlast.1 he with rfl | ⟨rfl, rfl⟩
        all_goals
          clear hlast he
          go_wp2_with fail
          go_loopw [14] (fun i w3 => ∃ m : Nat, 2 ≤ m ∧ m ≤ l + 1 ∧ i = .int .i64 m ∧ (∀ j, 2 ≤ j → j < m → ruI R (l + 1) f a zs wdN j = 0) ∧ Below W1.heap.size W1 w3) (fun i _ => (l + 1) - (intOf i).toNat)
          case atStart => exact ⟨2, by omega, by omega, rfl, fun j h1 h2 => by omega, Below.refl _ _⟩
          case round =>
            obtain ⟨m, hm2, hml, rfl, hru, hB3⟩ := hrel
            by_cases hlt2 : m < l + 1
            · obtain ⟨r, hr⟩ : ∃ r, ruI R (l + 1) f a zs wdN m = r := ⟨_, rfl⟩
              have hbm := ru m _ (hm3.below hB3) hlt2 hm2
              rw [hr] at hbm
              have hz2 := hz' m hlt2 hm2 hru
              rw [hr] at hz2
              clear x0 x1 x2 x3 x4
              by_cases hr0 : r = 0
              · subst hr0
                go_wp2_with fail
                refine hbm.mono ?_
                rintro e w4 ⟨rfl, hb4⟩
                have HB4 : Below W1.heap.size W1 w4 := hB3.trans (hb4.mono hB3.size)
                clear hb4 hB3 hbm
                go_wp2_with fail
                go_roundw
                case rel =>
                  refine ⟨_, _, _, _, _, _, _, _, _, _, _, _, _, _, _, _, _, _, _, ⟨m + 1, by omega, by omega, by go_num, ?_, HB4⟩, rfl⟩
                  intro j h1 h2
                  rcases Nat.lt_succ_iff_lt_or_eq.1 h2 with h' | h'
                  · exact hru j h1 h'
                  · rw [h']; exact hr
                case measure => simp [intOf]; omega
              · obtain ⟨rfl, rfl⟩ := hz2 hr0
                have hr0b : (y == 0) = false := by simpa using hr0
                go_wp2_with fail
                refine hbm.mono ?_
                rintro e w4 ⟨rfl, hb4⟩
                have HB4 : Below W1.heap.size W1 w4 := hB3.trans (hb4.mono hB3.size)
                clear hb4 hB3 hbm
                go_wp2_with fail
                go_ret2
                exact ⟨rfl, HW.out.trans (HB4.mono HW.out.size)⟩
            · obtain rfl : m = l + 1 := by omega
              obtain ⟨rfl, rfl⟩ := hzz hru
              clear x0 x1 x2 x3 x4
              go_wp2_with fail
              go_ret2
              exact ⟨rfl, HW.out.trans (hB3.mono HW.out.size)⟩
      · obtain ⟨rfl, rfl⟩ : x = ((l : Nat) : Int) ∧ y = 22 := by
          cases hl with
          | head k hk a b => exact absurd (hok k hk) b
          | last a b => exact ⟨rfl, rfl⟩
          | rule k a b => exact absurd b he
          | none a b => exact absurd b he
        have hn : ¬ (op = 4 ∨ (op = 3 ∧ rd = 0)) := fun h => he (hlast.2 h)
        have h4 : (op == 4) = false := by simp; omega
        clear hlast he h1
        by_cases h3 : op = 3
        · have hr0 : (rd == 0) = false := by simp; omega
          subst h3
          go_wp2_with fail
          go_ret2
          exact ⟨rfl, HW.out⟩
        · have h3b : (op == 3) = false := by simpa using h3
          go_wp2_with fail
          go_ret2
          exact ⟨rfl, HW.out⟩
end

end Go.Proofs.YthihlbfmpkjhpaaGreatDoor

namespace Go.Proofs.YthihlbfmpkjhpaaGreatDoor
open Go Go.RowKit
set_option linter.unusedVariables false

/-- Of a text and a list that are no longer than may be: the model's l06Lint and the program's LintFunction. -/
theorem lintIn (s : ByteArray) (a f : Int) (zs : List Int) (hs1 : s.size ≤ 65536) (hk1 : zs.length ≤ 4096) (ha : (Lit.int .i64 a).wf = true) (hf : (Lit.int .i64 f).wf = true) : ∃ x y : Int,
    (∀ pc cc w, IntsAt w pc zs → Calls Tryz.prog 57 #[.string s, .int .i64 a, .int .i64 f, .slice pc zs.length cc] w fun e w' => TwoN w.heap.size x y w e w') ∧
    (∀ pc cc w, Laid w → IntsAt w pc zs → Calls Tryz.prog 61 #[.string s, .int .i64 a, .int .i64 f, .slice pc zs.length cc] w fun e w' => TwoN w.heap.size x y w e w') := by
  have hs : s.size ≤ maxLen := by unfold maxLen; omega
  have hk : zs.length ≤ 1048576 := by omega
  have h0 : ¬ (65536 < s.size ∨ 4096 < zs.length) := by omega
  have no : ∀ c, cfC s.size zs.length a f = c → c ≠ 0 → ∀ pc cc w, Laid w → IntsAt w pc zs → Calls Tryz.prog 61 #[.string s, .int .i64 a, .int .i64 f, .slice pc zs.length cc] w fun e w' => TwoN w.heap.size 0 c w e w' :=
    fun c hc h0 pc cc w _ _ => lintImplNo s a f pc zs.length cc w hs hk ha hf c hc h0
  by_cases h1 : plB a = false
  · exact ⟨0, 4, fun pc cc w _ => specPlace s a f _ w hs1 ha h1, no 4 (by unfold cfC; rw [if_neg h0, if_pos h1]) (by decide)⟩
  have h1' : plB a = true := by cases e : plB a <;> simp_all
  by_cases h2 : frB f = false
  · exact ⟨0, 17, fun pc cc w _ => specFrame s a f _ w hs1 hf h1' h2, no 17 (by unfold cfC; rw [if_neg h0, if_neg h1, if_pos h2]) (by decide)⟩
  have h2' : frB f = true := by cases e : frB f <;> simp_all
  by_cases h3 : s.size % 4 = 0 ∧ s.size ≤ 256 ∧ 20 ≤ s.size
  · have hc : cfC s.size zs.length a f = 0 := by
      unfold cfC crC
      rw [if_neg h0, if_neg h1, if_neg h2, if_neg (by omega), if_pos (by omega)]
    obtain ⟨R, j, hr⟩ := run_of s (s.size / 4) (by omega) (by omega)
    by_cases e : j = s.size / 4
    · subst e
      obtain ⟨x, y, hl⟩ := lint_ex R (s.size / 4) f a zs
      obtain ⟨a0, a1, _⟩ := plB_yes h1'
      exact ⟨x, y, fun pc cc w hz => specYes s a f _ R w hf h1' h2' ⟨h3.1, h3.2.1⟩ h3.2.2 hr (by omega) (by omega) hk hz x y hl,
        fun pc cc w hL hz => lintImplYes s a f pc cc zs _ R w hL hs hk hz ha hf hc hr (by omega) (by omega) a0 a1 h2' x y hl⟩
    · have hj : j < s.size / 4 := by have := hr.le; omega
      exact ⟨j, 10, fun pc cc w hz => specWrong s a f _ _ j R w hf h1' h2' ⟨h3.1, h3.2.1⟩ h3.2.2 hr hj,
        fun pc cc w hL hz => lintImplWrong s a f pc _ cc _ j R w hL hs hk ha hf hc hr hj⟩
  · refine ⟨0, 8, fun pc cc w _ => specSize s a f _ w hs1 hf h1' h2' h3, no 8 ?_ (by decide)⟩
    unfold cfC crC
    rw [if_neg h0, if_neg h1, if_neg h2, if_neg (by omega), if_neg (by omega)]
end Go.Proofs.YthihlbfmpkjhpaaGreatDoor

namespace Go.Proofs.YthihlbfmpkjhpaaGreatDoor
open Go Go.RowKit
set_option linter.unusedVariables false

/-- What the check tells of function i: the model's and the program's. -/
def LintAt (c : ByteArray) (S : Nat → SymD) (n i : Nat) (q : Int × Int) : Prop :=
  (∀ pc cc w, IntsAt w pc (entU S n) → Calls Tryz.prog 57 #[.string (fnT c S i), .int .i64 (plI' S i), .int .i64 (S i).fr, .slice pc (entU S n).length cc] w fun e w' => TwoN w.heap.size q.1 q.2 w e w') ∧
  (∀ pc cc w, Laid w → IntsAt w pc (entU S n) → Calls Tryz.prog 61 #[.string (fnT c S i), .int .i64 (plI' S i), .int .i64 (S i).fr, .slice pc (entU S n).length cc] w fun e w' => TwoN w.heap.size q.1 q.2 w e w')
theorem lint_all (c s : ByteArray) (n : Nat) (S : Nat → SymD) (hw : ∀ i, i < n → (S i).wf) : ∃ L : Nat → Int × Int, n ≤ 16 ∧ c.size ≤ 1024 ∧ s.size ≤ 256 ∧ SymsIs n c.size s.size S 0 0 → ∀ i, i < n → (S i).kd = 1 → LintAt c S n i (L i) := by
  have key : ∀ i, ∃ q : Int × Int, n ≤ 16 ∧ c.size ≤ 1024 ∧ s.size ≤ 256 ∧ SymsIs n c.size s.size S 0 0 → i < n → (S i).kd = 1 → LintAt c S n i q := by
    intro i
    by_cases h : (n ≤ 16 ∧ c.size ≤ 1024 ∧ s.size ≤ 256 ∧ SymsIs n c.size s.size S 0 0) ∧ i < n ∧ (S i).kd = 1
    · obtain ⟨⟨h1, h2, h3, h4⟩, h5, h6⟩ := h
      obtain ⟨f0, f1, f2⟩ := fn_at h4.all (by omega) (by omega) h5 h6
      have hsz : (fnT c S i).size ≤ 65536 := by
        unfold fnT
        rw [ByteArray.size_extract]
        omega
      have hp : (Lit.int .i64 (plI' S i)).wf = true := by
        unfold plI'
        rw [if_pos h6, Lit.wf_int_iff, IntKind.min_i64, IntKind.max_i64]
        omega
      obtain ⟨x, y, hs, hi⟩ := lintIn (fnT c S i) (plI' S i) (S i).fr (entU S n) hsz (by have := entU_len S n; omega) hp (hw i h5).2.2.2.2
      exact ⟨(x, y), fun _ _ _ => ⟨hs, hi⟩⟩
    · exact ⟨(0, 0), fun a b d => absurd ⟨a, b, d⟩ h⟩
  exact ⟨fun i => Classical.choose (key i), fun h i hi hk => Classical.choose_spec (key i) h hi hk⟩

/-- An answer of three numbers. -/
def ThreeN (B : Nat) (x y z : Int) (w : World) (e : Ending) (w' : World) : Prop := e = .returned (.tuple #[.int .i64 x, .int .i64 y, .int .i64 z]) ∧ Below B w w'
theorem specLintI (c s : ByteArray) (p : Option Addr) (n kk : Nat) (S : Nat → SymD) (x y z : Int) (w : World) (h : ∀ w', SymsAt w' p n S → Calls Tryz.prog 30 #[.agg #[.string c, .string s, .slice p n kk]] w' fun e w'' => ThreeN w'.heap.size x y z w' e w'') (hp : SymsAt w p n S) :
    Calls Tryz.prog 11 #[.agg #[.string c, .string s, .slice p n kk]] w fun e w' => ThreeN w.heap.size x y z w e w' := by
  have bA := grown1' w (.cells #[.string c, .string s, .slice p n kk] 30)
  have H := h _ (hp.below bA)
  go_enter Tryz.func11, Tryz.ntmps11
  go_wp2_with fail
  refine H.mono ?_
  rintro e w2 ⟨rfl, hb2⟩
  go_wp2_with fail
  refine bodyPost_ret (v := .tuple #[.int .i64 x, .int .i64 y, .int .i64 z]) (by simp [results, Tryz.results11, go_sem]) rfl ⟨rfl, bA.trans (hb2.mono bA.size)⟩
theorem specOK (c s : ByteArray) (p : Option Addr) (n kk : Nat) (S : Nat → SymD) (x y z : Int) (w : World) (h : ∀ w', SymsAt w' p n S → Calls Tryz.prog 30 #[.agg #[.string c, .string s, .slice p n kk]] w' fun e w'' => ThreeN w'.heap.size x y z w' e w'') (hp : SymsAt w p n S) :
    Calls Tryz.prog 15 #[.agg #[.string c, .string s, .slice p n kk]] w fun e w' => e = .returned (.bool (z == 0)) ∧ Below w.heap.size w w' := by
  have bA := grown1' w (.cells #[.string c, .string s, .slice p n kk] 30)
  have H := h _ (hp.below bA)
  go_enter Tryz.func15, Tryz.ntmps15
  go_wp2_with fail
  refine H.mono ?_
  rintro e w2 ⟨rfl, hb2⟩
  go_wp2_with fail
  go_ret
  exact ⟨rfl, bA.trans (hb2.mono bA.size)⟩
end Go.Proofs.YthihlbfmpkjhpaaGreatDoor

namespace Go.Proofs.YthihlbfmpkjhpaaGreatDoor
open Go Go.RowKit
set_option linter.unusedVariables false

theorem OwnI.low {w : World} {B B' : Nat} {p : Option Addr} {n : Nat} {R : Nat → Int} (h : OwnI w B p n R) (hb : B' ≤ B) : OwnI w B' p n R := by
  rcases h with h | ⟨g, h1, h2, h3, h4⟩
  · exact .inl h
  · exact .inr ⟨g, h1, Nat.le_trans hb h2, h3, h4⟩
set_option maxRecDepth 100000 in
set_option maxHeartbeats 4000000 in
theorem placesC (c s : ByteArray) (p : Option Addr) (n kk : Nat) (S : Nat → SymD) (w : World) (hn : n ≤ 16) (hb : ∀ i, i < n → 0 ≤ (S i).pl ∧ (S i).pl ≤ 1048576) (hp : SymsAt w p n S) :
    Calls Tryz.prog 60 #[.agg #[.string c, .string s, .slice p n kk]] w fun e w' => (∃ q d, e = .returned (.slice q (entU S n).length d) ∧ OwnI w' w.heap.size q (entU S n).length (fun i => (entU S n).getD i 0)) ∧ Below w.heap.size w w' := by
  obtain ⟨i0, hi0, hz0, hz1, hz2⟩ := info_parts Tryz.info_int5
  have bA := grown1' w (.cells #[.string c, .string s, .slice p n kk] 30)
  have i2 : (w.alloc (.cells #[.string c, .string s, .slice p n kk] 30)).cell? ⟨w.heap.size, 2, none⟩ = some (.slice p n kk) := by simp
  have hp1 := hp.below bA
  obtain ⟨W, hW⟩ : ∃ W, (w.alloc (.cells #[.string c, .string s, .slice p n kk] 30)) = W := ⟨_, rfl⟩
  have HA : Hid (Below w.heap.size w W) := by rw [← hW]; exact bA
  rw [hW] at i2 hp1
  go_enter Tryz.func60, Tryz.ntmps60
  go_wp2_with fail
  try rw [hW]
  clear hW hp bA
  go_loopw [3, 9] (fun v i wr => ∃ k : Nat, k ≤ n ∧ i = .int .i64 k ∧ wr.ownsRow W.heap.size 3 1 v (entU S k).length ((entU S k).map (Value.int .i64)) ∧ Below W.heap.size W wr) (fun _ i _ => n - (intOf i).toNat)
  case atStart => exact ⟨0, Nat.zero_le _, rfl, World.ownsRow_nil _ _ _ _, Below.refl _ _⟩
  case round =>
    obtain ⟨k, hk, rfl, hown, hB⟩ := hrel
    by_cases hlt : k < n
    · rcases hp1 with hp | ⟨b, o, rfl, hbb, hp⟩
      · omega
      obtain ⟨x0, x1, x2, x3, x4⟩ := (hp.below hB hbb).sym hlt
      obtain ⟨p0, p1⟩ := hb k hlt
      obtain ⟨nm, e0⟩ : ∃ s, (S k).nm = s := ⟨_, rfl⟩
      obtain ⟨kd, e1⟩ : ∃ s, (S k).kd = s := ⟨_, rfl⟩
      obtain ⟨pl, e2⟩ : ∃ s, (S k).pl = s := ⟨_, rfl⟩
      obtain ⟨sz, e3⟩ : ∃ s, (S k).sz = s := ⟨_, rfl⟩
      obtain ⟨fr, e4⟩ : ∃ s, (S k).fr = s := ⟨_, rfl⟩
      rw [e0] at x0
      rw [e1] at x1
      rw [e2] at x2 p0 p1
      rw [e3] at x3
      rw [e4] at x4
      have hsz := hB.size
      have hlen := entU_len S k
      have eU := entU_succ S k
      rw [e1] at eU
      have bX := grown1' wr (.cells #[.string nm, .int .i64 kd, .int .i64 pl, .int .i64 sz, .int .i64 fr] 76)
      have hB1 := hB.trans (bX.mono hsz)
      have hownX := row_below hown bX
      clear hp hb
      by_cases h1 : kd = 1
      · have eP : plI' S k = 4096 + pl := by unfold plI'; rw [e1, e2, if_pos h1]
        rw [if_pos h1, eP] at eU
        subst h1
        have hpl := fun w' => placeImpl nm 1 pl sz fr w' p0 p1
        simp only [if_true] at hpl
        have HP : Hid (∀ w' : World, _) := hpl
        have EU : Hid (entU S (k + 1) = _) := eU
        clear e0 e1 e2 e3 e4 eP eU hpl
        go_wp2_with fail
        refine (HP.out _).mono ?_
        rintro e w2 ⟨rfl, hb2⟩
        have s1 := hB1.size
        have hown2 := row_below hownX hb2
        have hB2 := hB1.trans (hb2.mono s1)
        have s2 := hB2.size
        have HAs := HA.out.size
        clear hown hownX hB hB1 bX hb2 x0 x1 x2 x3 x4 HP
        go_wp2_with (at_builtin; refine wpList_append_own_at _ rfl _ _ 91 rfl W.heap.size 3 i0 _ 1 8 Tryz.underlying91 hi0 hz0 hz1 hz2 rfl (by decide) _ _ _ rfl (hown2.alloc _) ⟨w2.heap.size, 0, none⟩ 1 1 [.int .i64 (4096 + pl)] rfl rfl (World.news_of_block (cs := #[.int .i64 (4096 + pl)]) (t := 3) (fr := (0, 0)) (heap_alloc_new w2 _)) (by simp [Value.oneCell']) (by unfold maxLen; omega) (by omega) (by simp; omega) ?_; intro v' w4 hown4 hg4 hn4 hat4)
        go_roundw
        case rel =>
          refine ⟨k + 1, by omega, by go_num, ?_, (hB2.alloc s2 _).grown hg4 (by simp; omega) (fun i e => (hown2.lt i e).1)⟩
          rw [EU.out, List.length_append, List.map_append]
          exact hown4
        case measure => simp [intOf]; omega
      · rw [if_neg h1, List.append_nil] at eU
        have hb1 : (kd == 1) = false := by simpa using h1
        have EU : Hid (entU S (k + 1) = _) := eU
        clear e0 e1 e2 e3 e4 eU
        go_wp2_with fail
        go_roundw
        case rel => exact ⟨k + 1, by omega, by go_num, by rw [EU.out]; exact hownX, hB1⟩
        case measure => simp [intOf]; omega
    · obtain rfl : k = n := by omega
      obtain ⟨p9, c9, rfl, hc9, ho⟩ := ownI_of_row hown
      have HB : Hid (Below w.heap.size w wr) := HA.out.trans (hB.mono HA.out.size)
      clear hown hB
      go_wp2_with fail
      go_ret
      exact ⟨⟨p9, c9, rfl, ho.low HA.out.size⟩, HB.out⟩

set_option maxRecDepth 100000 in
set_option maxHeartbeats 8000000 in
theorem fnFltC (c s : ByteArray) (p : Option Addr) (n kk : Nat) (S : Nat → SymD) (L : Nat → Int × Int) (w : World) (hLd : Laid w) (hn1 : n ≤ 16) (hC1 : c.size ≤ 1024) (hD1 : s.size ≤ 256) (hall : ∀ j, j < n → fltI c.size s.size S j = 0) (hp : SymsAt w p n S)
    (hLn : ∀ i, i < n → (S i).kd = 1 → LintAt c S n i (L i)) (x y z : Int)
    (hfn : ∀ m, m < n → (S m).kd = 1 → (∀ j, j < m → (S j).kd = 1 → (L j).2 = 0) → (L m).2 ≠ 0 → x = ((m : Nat) : Int) ∧ y = (L m).1 ∧ z = (L m).2)
    (hfin : (∀ j, j < n → (S j).kd = 1 → (L j).2 = 0) → x = 0 ∧ y = 0 ∧ z = 0) :
    Calls Tryz.prog 35 #[.agg #[.string c, .string s, .slice p n kk]] w fun e w' => ThreeN w.heap.size x y z w e w' := by
  have bA := grown1' w (.cells #[.string c, .string s, .slice p n kk] 30)
  have i0 : (w.alloc (.cells #[.string c, .string s, .slice p n kk] 30)).cell? ⟨w.heap.size, 0, none⟩ = some (.string c) := by simp
  have i1 : (w.alloc (.cells #[.string c, .string s, .slice p n kk] 30)).cell? ⟨w.heap.size, 1, none⟩ = some (.string s) := by simp
  have i2 : (w.alloc (.cells #[.string c, .string s, .slice p n kk] 30)).cell? ⟨w.heap.size, 2, none⟩ = some (.slice p n kk) := by simp
  have hlt0 : w.heap.size < (w.alloc (.cells #[.string c, .string s, .slice p n kk] 30)).heap.size := by simp
  have hp1 := hp.below bA
  have hL1 := laid_below hLd bA
  obtain ⟨zs, hzs⟩ : ∃ zs, entU S n = zs := ⟨_, rfl⟩
  have hLN : ∀ i, i < n → (S i).kd = 1 → ∀ pc cc w, Laid w → IntsAt w pc (entU S n) → Calls Tryz.prog 61 #[.string (fnT c S i), .int .i64 (plI' S i), .int .i64 (S i).fr, .slice pc (entU S n).length cc] w fun e w' => TwoN w.heap.size (L i).1 (L i).2 w e w' := fun i hi hk => (hLn i hi hk).2
  rw [hzs] at hLN
  obtain ⟨N, hN⟩ : ∃ N, zs.length = N := ⟨_, rfl⟩
  have HLN : Hid (∀ i, i < n → (S i).kd = 1 → ∀ pc cc w, Laid w → IntsAt w pc zs → Calls Tryz.prog 61 #[.string (fnT c S i), .int .i64 (plI' S i), .int .i64 (S i).fr, .slice pc N cc] w fun e w' => TwoN w.heap.size (L i).1 (L i).2 w e w') := by rw [← hN]; exact hLN
  have HALL : Hid (∀ j, j < n → fltI c.size s.size S j = 0) := hall
  have HFN : Hid (∀ m, m < n → (S m).kd = 1 → (∀ j, j < m → (S j).kd = 1 → (L j).2 = 0) → (L m).2 ≠ 0 → x = ((m : Nat) : Int) ∧ y = (L m).1 ∧ z = (L m).2) := hfn
  have HFIN : Hid ((∀ j, j < n → (S j).kd = 1 → (L j).2 = 0) → x = 0 ∧ y = 0 ∧ z = 0) := hfin
  obtain ⟨w1, hW⟩ : ∃ W, (w.alloc (.cells #[.string c, .string s, .slice p n kk] 30)) = W := ⟨_, rfl⟩
  obtain ⟨X, hX⟩ : ∃ X, w.heap.size = X := ⟨_, rfl⟩
  have HA : Hid (Below X w w1) := by rw [← hX, ← hW]; exact bA
  rw [hW] at i0 i1 i2 hlt0 hp1 hL1
  rw [hX] at i0 i1 i2 hlt0
  have hent := placesC c s p n kk S w1 hn1 (fun i hi => pl_at hall (by omega) (by omega) (by omega) (by omega) hi) hp1
  rw [hzs, hN] at hent
  have HENT : Hid (∀ _ : Unit, Calls Tryz.prog 60 #[.agg #[.string c, .string s, .slice p n kk]] w1 fun e w' => (∃ q d, e = .returned (.slice q N d) ∧ OwnI w' w1.heap.size q N (fun i => zs.getD i 0)) ∧ Below w1.heap.size w1 w') := fun _ => hent
  clear hLn hLN hall hfn hfin hent hp hLd bA
  go_enter Tryz.func35, Tryz.ntmps35
  go_wp2_with fail
  try rw [hW]
  refine (HENT.out ()).mono ?_
  rintro e w2 ⟨⟨q, d, rfl, ho⟩, hb2⟩
  have hz : IntsAt w2 q zs := by unfold IntsAt; rw [hN]; exact ho.row
  have k0 := (hb2.cell (p := ⟨X, 0, none⟩) hlt0).trans i0
  have k1 := (hb2.cell (p := ⟨X, 1, none⟩) hlt0).trans i1
  have k2 := (hb2.cell (p := ⟨X, 2, none⟩) hlt0).trans i2
  have hlt2 := Nat.lt_of_lt_of_le hlt0 hb2.size
  have hp3 := hp1.below hb2
  have hL3 := laid_below hL1 hb2
  have H2 : Hid (Below X w w2) := HA.out.trans (hb2.mono (Nat.le_of_lt hlt0))
  clear hb2 i0 i1 i2 hp1 hL1 HENT ho hzs hN hW
  go_wp2_with fail
  try rw [hX]
  have HX : Hid (w.heap.size = X) := hX
  clear hX
  go_loopw [15] (fun i wr => ∃ m : Nat, m ≤ n ∧ i = .int .i64 m ∧ (∀ j, j < m → (S j).kd = 1 → (L j).2 = 0) ∧ Below w2.heap.size w2 wr) (fun i _ => n - (intOf i).toNat)
  case atStart => exact ⟨0, Nat.zero_le _, rfl, fun j hj => absurd hj (Nat.not_lt_zero _), Below.refl _ _⟩
  case round =>
    obtain ⟨m, hm, rfl, hok, hB⟩ := hrel
    have l0 := (hB.cell (p := ⟨X, 0, none⟩) hlt2).trans k0
    have l2 := (hB.cell (p := ⟨X, 2, none⟩) hlt2).trans k2
    have hsz := hB.size
    by_cases hlt : m < n
    · rcases hp3 with hp3 | ⟨b, o, rfl, hb, hp3⟩
      · omega
      obtain ⟨x0, x1, x2, x3, x4⟩ := (hp3.below hB hb).sym hlt
      have hfa := fun hk => fn_at HALL.out (by omega) (by omega) hlt hk
      have hli := HLN.out m hlt
      unfold fnT plI' at hli
      obtain ⟨nm, e0⟩ : ∃ s, (S m).nm = s := ⟨_, rfl⟩
      obtain ⟨kd, e1⟩ : ∃ s, (S m).kd = s := ⟨_, rfl⟩
      obtain ⟨pl, e2⟩ : ∃ s, (S m).pl = s := ⟨_, rfl⟩
      obtain ⟨sz, e3⟩ : ∃ s, (S m).sz = s := ⟨_, rfl⟩
      obtain ⟨fr, e4⟩ : ∃ s, (S m).fr = s := ⟨_, rfl⟩
      rw [e0] at x0
      rw [e1] at x1 hfa hli
      rw [e2] at x2 hfa hli
      rw [e3] at x3 hfa hli
      rw [e4] at x4 hli
      have E1 : Hid (_ = kd) := e1
      have HOK : Hid (∀ j, j < m → (S j).kd = 1 → (L j).2 = 0) := hok
      have bX := grown1' wr (.cells #[.string nm, .int .i64 kd, .int .i64 pl, .int .i64 sz, .int .i64 fr] 76)
      have hB1 := hB.trans (bX.mono hsz)
      by_cases h1 : kd = 1
      · subst h1
        obtain ⟨f0, f1, f2⟩ := hfa rfl
        rw [if_pos rfl] at hli
        have hli' := hli rfl
        obtain ⟨pn, rfl⟩ := Int.eq_ofNat_of_zero_le f0
        obtain ⟨sn, rfl⟩ := Int.eq_ofNat_of_zero_le (show 0 ≤ sz by omega)
        have ex : ((pn : Int) + (sn : Int)).toNat = pn + sn := by omega
        have ex0 : ((pn : Int)).toNat = pn := by omega
        rw [ex, ex0] at hli'
        obtain ⟨r1, g1⟩ : ∃ r, (L m).1 = r := ⟨_, rfl⟩
        obtain ⟨r2, g2⟩ : ∃ r, (L m).2 = r := ⟨_, rfl⟩
        rw [g1, g2] at hli'
        have HLI : Hid (∀ pc cc w, Laid w → IntsAt w pc zs → Calls Tryz.prog 61 #[.string (c.extract pn (pn + sn)), .int .i64 (4096 + (pn : Int)), .int .i64 fr, .slice pc N cc] w fun e w' => TwoN w.heap.size r1 r2 w e w') := hli'
        have hpl := fun w' => placeImpl nm 1 pn sn fr w' (by omega) (by omega)
        simp only [if_true] at hpl
        have HPL : Hid (∀ w' : World, _) := hpl
        have G1 : Hid (_ = r1) := g1
        have G2 : Hid (_ = r2) := g2
        have z0 : (wr.alloc (.cells #[.string nm, .int .i64 1, .int .i64 pn, .int .i64 sn, .int .i64 fr] 76)).cell? ⟨wr.heap.size, 0, none⟩ = some (.string nm) := by simp
        have z1 : (wr.alloc (.cells #[.string nm, .int .i64 1, .int .i64 pn, .int .i64 sn, .int .i64 fr] 76)).cell? ⟨wr.heap.size, 1, none⟩ = some (.int .i64 1) := by simp
        have z2 : (wr.alloc (.cells #[.string nm, .int .i64 1, .int .i64 pn, .int .i64 sn, .int .i64 fr] 76)).cell? ⟨wr.heap.size, 2, none⟩ = some (.int .i64 pn) := by simp
        have z3 : (wr.alloc (.cells #[.string nm, .int .i64 1, .int .i64 pn, .int .i64 sn, .int .i64 fr] 76)).cell? ⟨wr.heap.size, 3, none⟩ = some (.int .i64 sn) := by simp
        have z4 : (wr.alloc (.cells #[.string nm, .int .i64 1, .int .i64 pn, .int .i64 sn, .int .i64 fr] 76)).cell? ⟨wr.heap.size, 4, none⟩ = some (.int .i64 fr) := by simp
        have zl : wr.heap.size < (wr.alloc (.cells #[.string nm, .int .i64 1, .int .i64 pn, .int .i64 sn, .int .i64 fr] 76)).heap.size := by simp
        have y0 := (bX.cell (p := ⟨X, 0, none⟩) (Nat.lt_of_lt_of_le hlt2 hsz)).trans l0
        have hz1 := (hz.below hB).below bX
        have hLd1 := laid_below (laid_below hL3 hB) bX
        clear e0 e1 e2 e3 e4 g1 g2 hli hli' hpl hfa hok bX
        go_wp2_with fail
        obtain ⟨W1, hW1⟩ : ∃ W1, (wr.alloc (.cells #[.string nm, .int .i64 1, .int .i64 pn, .int .i64 sn, .int .i64 fr] 76)) = W1 := ⟨_, rfl⟩
        obtain ⟨Y, hY⟩ : ∃ Y, wr.heap.size = Y := ⟨_, rfl⟩
        have hX1 : X < W1.heap.size := by rw [← hW1]; have := Nat.lt_of_lt_of_le hlt2 hsz; simp; omega
        rw [hW1] at z0 z1 z2 z3 z4 zl y0 hz1 hB1 hLd1 ⊢
        rw [hY] at z0 z1 z2 z3 z4 zl ⊢
        have HB1 : Hid (Below w2.heap.size w2 W1) := hB1
        have HLW : Hid (Laid W1) := hLd1
        have q1 : (0 : Int) ≤ (pn : Int) := by omega
        have q2 : (pn : Int) ≤ (pn : Int) + (sn : Int) := by omega
        have q3 : (pn : Int) + (sn : Int) ≤ (c.size : Int) := f2
        have q4 : IntKind.i64.wrap ((pn : Int) + (sn : Int)) = (pn : Int) + (sn : Int) := by rw [IntKind.wrap_i64]; omega
        have s1 := hB1.size
        clear hB1 hW1 hY hB x0 x1 x2 x3 x4 l0 l2 hsz hp3 hz hLd1
        go_region_held3 (fun w' => w'.cell? ⟨X, 0, none⟩ = some (.string c) ∧ w'.cell? ⟨Y, 0, none⟩ = some (.string nm) ∧ w'.cell? ⟨Y, 1, none⟩ = some (.int .i64 1) ∧ w'.cell? ⟨Y, 2, none⟩ = some (.int .i64 pn) ∧ w'.cell? ⟨Y, 3, none⟩ = some (.int .i64 sn) ∧ w'.cell? ⟨Y, 4, none⟩ = some (.int .i64 fr)) (go_keep) (first | (go_at_call 52; refine (HPL.out _).mono ?_; rintro e w3 ⟨rfl, hb3⟩; have B3 : Below W1.heap.size W1 w3 := (by first | exact hb3 | exact (Below.refl W1.heap.size W1).drew.trans hb3); have a0 := (B3.cell (p := ⟨X, 0, none⟩) hX1).trans y0; have a1 := (B3.cell (p := ⟨Y, 0, none⟩) zl).trans z0; have a2 := (B3.cell (p := ⟨Y, 1, none⟩) zl).trans z1; have a3 := (B3.cell (p := ⟨Y, 2, none⟩) zl).trans z2; have a4 := (B3.cell (p := ⟨Y, 3, none⟩) zl).trans z3; have a5 := (B3.cell (p := ⟨Y, 4, none⟩) zl).trans z4; have hz3 := hz1.below B3; have hl3 := laid_below HLW.out B3; have s3 := B3.size) | (go_at_call 61; refine (HLI.out _ _ _ hl3 hz3).mono ?_; rintro e w4 ⟨rfl, hb4⟩; have B4 : Below W1.heap.size W1 w4 := B3.trans (hb4.mono s3); have b0 := (B4.cell (p := ⟨X, 0, none⟩) hX1).trans y0; have b1 := (B4.cell (p := ⟨Y, 0, none⟩) zl).trans z0; have b2 := (B4.cell (p := ⟨Y, 1, none⟩) zl).trans z1; have b3 := (B4.cell (p := ⟨Y, 2, none⟩) zl).trans z2; have b4 := (B4.cell (p := ⟨Y, 3, none⟩) zl).trans z3; have b5 := (B4.cell (p := ⟨Y, 4, none⟩) zl).trans z4))
        have HB4 : Hid (Below w2.heap.size w2 w4) := HB1.out.trans (B4.mono HB1.out.size)
        clear a0 a1 a2 a3 a4 a5 b0 b1 b2 b3 b4 b5 hz3 hl3 hb3 hb4 B3 B4 s3 y0 z0 z1 z2 z3 z4 hz1
        by_cases hr : r2 = 0
        · subst hr
          go_wp2_with fail
          go_roundw
          case rel => exact ⟨m + 1, by omega, by go_num, fun j hj hk => by
            rcases Nat.lt_succ_iff_lt_or_eq.1 hj with h' | rfl
            · exact HOK.out j h' hk
            · exact G2.out, HB4.out⟩
          case measure => simp [intOf]; omega
        · obtain ⟨rfl, e1, e2⟩ := HFN.out m hlt E1.out HOK.out (by rw [G2.out]; exact hr)
          rw [G1.out] at e1
          rw [G2.out] at e2
          subst e1 e2
          have hrb : (z == 0) = false := by simpa using hr
          go_wp2_with fail
          refine bodyPost_ret (v := .tuple #[.int .i64 m, .int .i64 y, .int .i64 z]) (by simp [results, Tryz.results35, go_sem]) rfl ⟨rfl, by rw [HX.out]; exact H2.out.trans (HB4.out.mono (Nat.le_of_lt hlt2))⟩
      · have hb1 : (kd == 1) = false := by simpa using h1
        clear e0 e1 e2 e3 e4 hli hfa hok
        go_wp2_with fail
        go_roundw
        case rel => exact ⟨m + 1, by omega, by go_num, fun j hj hk => by
          rcases Nat.lt_succ_iff_lt_or_eq.1 hj with h' | rfl
          · exact HOK.out j h' hk
          · exact absurd (E1.out.symm.trans hk) h1, hB1⟩
        case measure => simp [intOf]; omega
    · obtain rfl : m = n := by omega
      obtain ⟨rfl, rfl, rfl⟩ := HFIN.out hok
      clear hok
      go_wp2_with fail
      refine bodyPost_ret (v := .tuple #[.int .i64 0, .int .i64 0, .int .i64 0]) (by simp [results, Tryz.results35, go_sem]) rfl ⟨rfl, by rw [HX.out]; exact H2.out.trans (hB.mono (Nat.le_of_lt hlt2))⟩
end Go.Proofs.YthihlbfmpkjhpaaGreatDoor

namespace Go.Proofs.YthihlbfmpkjhpaaGreatDoor
open Go Go.RowKit
set_option linter.unusedVariables false

set_option maxRecDepth 100000 in
set_option maxHeartbeats 8000000 in
theorem progImg (c s : ByteArray) (p : Option Addr) (n kk : Nat) (S : Nat → SymD) (L : Nat → Int × Int) (w : World) (hL : Laid w) (hkk : n ≤ kk) (hc : c.size ≤ 1048576) (hs : s.size ≤ 1048576) (hn : n ≤ 1048576) (hw : ∀ i, i < n → (S i).wf) (hp : SymsAt w p n S) (x y z : Int) (hl : ImgIs n c.size s.size S L x y z)
    (hf : n ≤ 16 ∧ c.size ≤ 1024 ∧ s.size ≤ 256 ∧ SymsIs n c.size s.size S 0 0 → ∀ i, i < n → (S i).kd = 1 → LintAt c S n i (L i)) :
    Calls Tryz.prog 13 #[.agg #[.string c, .string s, .slice p n kk]] w fun e w' => ThreeN w.heap.size x y z w e w' := by
  have bA := grown1' w (.cells #[.string c, .string s, .slice p n kk] 30)
  have i0 : (w.alloc (.cells #[.string c, .string s, .slice p n kk] 30)).cell? ⟨w.heap.size, 0, none⟩ = some (.string c) := by simp
  have i1 : (w.alloc (.cells #[.string c, .string s, .slice p n kk] 30)).cell? ⟨w.heap.size, 1, none⟩ = some (.string s) := by simp
  have i2 : (w.alloc (.cells #[.string c, .string s, .slice p n kk] 30)).cell? ⟨w.heap.size, 2, none⟩ = some (.slice p n kk) := by simp
  have hlt0 : w.heap.size < (w.alloc (.cells #[.string c, .string s, .slice p n kk] 30)).heap.size := by simp
  have hp1 := hp.below bA
  have hL1 := laid_below hL bA
  obtain ⟨w1, hW⟩ : ∃ W, (w.alloc (.cells #[.string c, .string s, .slice p n kk] 30)) = W := ⟨_, rfl⟩
  obtain ⟨X, hX⟩ : ∃ X, w.heap.size = X := ⟨_, rfl⟩
  have HA : Hid (Below X w w1) := by rw [← hX, ← hW]; exact bA
  rw [hW] at i0 i1 i2 hlt0 hp1 hL1
  rw [hX] at i0 i1 i2 hlt0
  have HX : Hid (w.heap.size = X) := hX
  have HI : Hid (ImgIs n c.size s.size S L x y z) := hl
  have HF : Hid (n ≤ 16 ∧ c.size ≤ 1024 ∧ s.size ≤ 256 ∧ SymsIs n c.size s.size S 0 0 → ∀ i, i < n → (S i).kd = 1 → LintAt c S n i (L i)) := hf
  have HW : Hid (∀ i, i < n → (S i).wf) := hw
  have HP1 : Hid (SymsAt w1 p n S) := hp1
  have HL1 : Hid (Laid w1) := hL1
  obtain ⟨fs, hfs⟩ : ∃ f : Int, (if 16 < n then 6 else if 1024 < c.size ∨ 256 < s.size then 8 else 0) = f := ⟨_, rfl⟩
  have sz := sizesC c s p n kk w1 hc hs hn
  rw [hfs] at sz
  have HS : Hid (_ = fs) := hfs
  clear bA hl hf hp hL hw hp1 hL1 hfs
  go_enter Tryz.func13, Tryz.ntmps13
  go_wp2_with fail
  try rw [hW]
  refine sz.mono ?_
  rintro e w2 ⟨rfl, hb2⟩
  have j0 := (hb2.cell (p := ⟨X, 0, none⟩) hlt0).trans i0
  have j1 := (hb2.cell (p := ⟨X, 1, none⟩) hlt0).trans i1
  have j2 := (hb2.cell (p := ⟨X, 2, none⟩) hlt0).trans i2
  have hlt2 := Nat.lt_of_lt_of_le hlt0 hb2.size
  have hp2 := HP1.out.below hb2
  have hL2 := laid_below HL1.out hb2
  have H2 : Hid (Below X w w2) := HA.out.trans (hb2.mono (Nat.le_of_lt hlt0))
  clear hb2 i0 i1 i2 hW hX sz HP1 HL1
  by_cases h0 : fs = 0
  · have key : n ≤ 16 ∧ c.size ≤ 1024 ∧ s.size ≤ 256 := by
      have := HS.out
      rw [h0] at this
      split at this
      · omega
      · split at this <;> omega
    obtain ⟨hn1, hC1, hD1⟩ := key
    subst h0
    clear HS
    have bL := grown1' w2 (.cells (layC c s p n kk 0 0) 52)
    have lies := Lies.new w2 (layC c s p n kk 0 0) 52
    have HP2 : Hid (SymsAt w2 p n S) := hp2
    have HL2 : Hid (Laid w2) := hL2
    clear hp2 hL2
    go_wp2_with fail
    obtain ⟨w3, hW3⟩ : ∃ W, (w2.alloc (.cells #[.string c, .string s, .slice p n kk, .int .i64 0, .int .i64 0] 52)) = W := ⟨_, rfl⟩
    obtain ⟨g, hg⟩ : ∃ g, w2.heap.size = g := ⟨_, rfl⟩
    have low2 : SymsLow w2 g p n S := by
      rcases HP2.out with h | ⟨b, o, e, hb, hv⟩
      · exact .inl h
      · exact .inr ⟨b, o, e, by rw [← hg]; exact hb, hv⟩
    rw [hW3, hg] at bL lies ⊢
    rw [hg] at hlt2
    have H3 : Hid (Below g w2 w3) := bL
    have low3 := low2.below bL
    have LOW3 : Hid (SymsLow w3 g p n S) := low3
    have HG : Hid (w2.heap.size = g) := hg
    clear bL hW3 hg low2 low3
    refine (symFltC g c s p n kk S w3 hn1 hkk hC1 hD1 HW.out LOW3.out lies).mono ?_
    rintro e w4 ⟨hb4, hcase⟩
    have H4 : Hid (Below g w2 w4) := H3.out.trans hb4
    have LOW4 : Hid (SymsLow w4 g p n S) := LOW3.out.below hb4
    clear hb4 lies H3 LOW3
    rcases hcase with ⟨k, hk, hok, hne, rfl⟩ | ⟨hok, rfl, hl4⟩
    · obtain ⟨v, hv⟩ : ∃ v, fltI c.size s.size S k = v := ⟨_, rfl⟩
      have key : x = ((k : Nat) : Int) ∧ y = 0 ∧ z = v := by
        have hs1 := SymsIs.flt (n := n) k hk hok hne
        have hl := HI.out
        cases hl with
        | many a => omega
        | size a b => omega
        | syms x' y' a b d hs' hy => obtain ⟨e1, e2⟩ := hs'.uniq hs1; exact ⟨e1, rfl, e2.trans hv⟩
        | fn q a b d hs' => exact absurd (hs'.uniq hs1).2.symm hne
        | ok a b d hs' => exact absurd (hs'.uniq hs1).2.symm hne
      obtain ⟨rfl, rfl, rfl⟩ := key
      rw [hv] at hne ⊢
      have hzb : (z == 0) = false := by simpa using hne
      clear hok hv HI HF HW LOW4 HP2 HL2 j0 j1 j2
      go_wp2_with fail
      refine bodyPost_ret (v := .tuple #[.int .i64 k, .int .i64 0, .int .i64 z]) (by simp [results, Tryz.results13, go_sem]) rfl ⟨rfl, by rw [HX.out]; exact H2.out.trans (H4.out.mono (Nat.le_of_lt hlt2))⟩
    · have HOK : Hid (∀ j, j < n → fltI c.size s.size S j = 0) := hok
      obtain ⟨fe, hfe⟩ : ∃ v, cdU S n = v := ⟨_, rfl⟩
      obtain ⟨de, hde⟩ : ∃ v, dtU S n = v := ⟨_, rfl⟩
      rw [hfe, hde] at hl4
      have HFE : Hid (cdU S n = fe) := hfe
      obtain ⟨wf, hwf⟩ : ∃ v, whF n c.size S = v := ⟨_, rfl⟩
      have HWF : Hid (whF n c.size S = wf) := hwf
      have wh := wholeFltC g c s p n kk S fe de w4 hC1 hn1 LOW4.out hl4 HFE.out.symm
      rw [hwf] at wh
      clear hok hfe hde hwf hl4
      go_wp2_with fail
      refine wh.mono ?_
      rintro e w5 ⟨rfl, hb5⟩
      have s4 : g ≤ w4.heap.size := by rw [← HG.out]; exact H4.out.size
      have H5 : Hid (Below g w2 w5) := H4.out.trans (hb5.mono s4)
      have k0 := (H5.out.cell (p := ⟨X, 0, none⟩) hlt2).trans j0
      have k1 := (H5.out.cell (p := ⟨X, 1, none⟩) hlt2).trans j1
      have k2 := (H5.out.cell (p := ⟨X, 2, none⟩) hlt2).trans j2
      clear hb5 wh H4 LOW4 j0 j1 j2
      by_cases h1 : wf = 0
      · have hs1 : SymsIs n c.size s.size S 0 0 := by
          have e := HWF.out
          rw [h1] at e
          unfold whF at e
          split at e
          · omega
          rename_i a
          split at e
          · omega
          rename_i b
          exact .ok HOK.out (by omega) (Classical.byContradiction fun h => a (.inr h)) (Classical.byContradiction fun h => b h)
        subst h1
        have hl := HI.out
        have hfn : ∀ m, m < n → (S m).kd = 1 → (∀ j, j < m → (S j).kd = 1 → (L j).2 = 0) → (L m).2 ≠ 0 → x = ((m : Nat) : Int) ∧ y = (L m).1 ∧ z = (L m).2 := by
          intro m hm hk hb hne
          cases hl with
          | many a => omega
          | size a b => omega
          | syms x' y' a b d hs' hy => exact absurd (hs'.uniq hs1).2 hy
          | fn k a b d hs' hk' hf' hb' hn' =>
            by_cases h1 : k < m
            · exact absurd (hb k h1 hf') hn'
            · by_cases h2 : m < k
              · exact absurd (hb' m h2 hk) hne
              · obtain rfl : k = m := by omega
                exact ⟨rfl, rfl, rfl⟩
          | ok a b d hs' hb' => exact absurd (hb' m hm hk) hne
        have hfin : (∀ j, j < n → (S j).kd = 1 → (L j).2 = 0) → x = 0 ∧ y = 0 ∧ z = 0 := by
          intro hb
          cases hl with
          | many a => omega
          | size a b => omega
          | syms x' y' a b d hs' hy => exact absurd (hs'.uniq hs1).2 hy
          | fn k a b d hs' hk' hf' hb' hn' => exact absurd (hb k hk' hf') hn'
          | ok => exact ⟨rfl, rfl, rfl⟩
        have H5' : Below w2.heap.size w2 w5 := by rw [HG.out]; exact H5.out
        have ff := fnFltC c s p n kk S L w5 (laid_below HL2.out H5') hn1 hC1 hD1 HOK.out (HP2.out.below H5') (HF.out ⟨hn1, hC1, hD1, hs1⟩) x y z hfn hfin
        have s5 : X ≤ w5.heap.size := by have h1 := H5'.size; have h2 := HG.out; omega
        clear HI HF HW HL2 HP2 HOK HWF HFE hl hfn hfin hs1 H5'
        go_wp2_with fail
        refine ff.mono ?_
        rintro e w6 ⟨rfl, hb6⟩
        have bel := (H2.out.trans (H5.out.mono (Nat.le_of_lt hlt2))).trans (hb6.mono s5)
        clear ff hb6 k0 k1 k2
        go_wp2_with fail
        refine bodyPost_ret (v := .tuple #[.int .i64 x, .int .i64 y, .int .i64 z]) (by simp [results, Tryz.results13, go_sem]) rfl ⟨rfl, by rw [HX.out]; exact bel⟩
      · have h1b : (wf == 0) = false := by simpa using h1
        have key : x = 0 ∧ y = 0 ∧ z = wf := by
          have hs1 : SymsIs n c.size s.size S 0 wf := by
            have e := HWF.out
            unfold whF at e
            split at e
            · rename_i a; subst e; exact .nosym HOK.out a
            rename_i a
            split at e
            · rename_i b
              subst e
              exact .short HOK.out (by omega) (Classical.byContradiction fun h => a (.inr h)) b
            · exact absurd e.symm h1
          have hl := HI.out
          cases hl with
          | many a => omega
          | size a b => omega
          | syms x' y' a b d hs' hy => obtain ⟨e1, e2⟩ := hs'.uniq hs1; exact ⟨e1, rfl, e2⟩
          | fn q a b d hs' => exact absurd (hs'.uniq hs1).2.symm h1
          | ok a b d hs' => exact absurd (hs'.uniq hs1).2.symm h1
        obtain ⟨rfl, rfl, rfl⟩ := key
        clear HI HF HW HL2 HP2 HOK HWF HFE
        go_wp2_with fail
        refine bodyPost_ret (v := .tuple #[.int .i64 0, .int .i64 0, .int .i64 z]) (by simp [results, Tryz.results13, go_sem]) rfl ⟨rfl, by rw [HX.out]; exact H2.out.trans (H5.out.mono (Nat.le_of_lt hlt2))⟩
  · have hb0 : (fs == 0) = false := by simpa using h0
    have key : x = 0 ∧ y = 0 ∧ z = fs := by
      have e := HS.out
      have hl := HI.out
      cases hl with
      | many a => rw [if_pos a] at e; exact ⟨rfl, rfl, e⟩
      | size a b => rw [if_neg (by omega), if_pos b] at e; exact ⟨rfl, rfl, e⟩
      | syms x' y' a b d => rw [if_neg (by omega), if_neg (by omega)] at e; exact absurd e.symm h0
      | fn k a b d => rw [if_neg (by omega), if_neg (by omega)] at e; exact absurd e.symm h0
      | ok a b d => rw [if_neg (by omega), if_neg (by omega)] at e; exact absurd e.symm h0
    obtain ⟨rfl, rfl, rfl⟩ := key
    clear HS HI HF HW hp2 hL2
    go_wp2_with fail
    refine bodyPost_ret (v := .tuple #[.int .i64 0, .int .i64 0, .int .i64 z]) (by simp [results, Tryz.results13, go_sem]) rfl ⟨rfl, by rw [HX.out]; exact H2.out⟩
end Go.Proofs.YthihlbfmpkjhpaaGreatDoor

namespace Go.Proofs.YthihlbfmpkjhpaaGreatDoor
open Go Go.RowKit
set_option linter.unusedVariables false

/-- Of an image that is right: where its symbols lie. -/
structure SymsOK (n : Nat) (S : Nat → SymD) : Prop where
  n16 : n ≤ 16
  pl : ∀ i, i < n → 0 ≤ (S i).pl ∧ (S i).pl ≤ 1048576
  sz : ∀ i, i < n → 1 ≤ (S i).sz ∧ (S i).sz ≤ 1048576
theorem ImgIs.right {n C D : Nat} {S : Nat → SymD} {L : Nat → Int × Int} {x y : Int} (h : ImgIs n C D S L x y 0) : SymsOK n S := by
  have key : n ≤ 16 ∧ C ≤ 1024 ∧ D ≤ 256 ∧ ∀ j, j < n → fltI C D S j = 0 := by
    generalize hz : (0 : Int) = z at h
    cases h with
    | many => cases hz
    | size => cases hz
    | syms x y a b d hs hy => exact absurd hz.symm hy
    | fn k a b d hs hk hf hb hn => exact absurd hz.symm hn
    | ok a b d hs => exact ⟨a, b, d, hs.all⟩
  obtain ⟨k1, k2, k3, k4⟩ := key
  refine ⟨k1, fun i hi => pl_at k4 (by omega) (by omega) (by omega) (by omega) hi, fun i hi => ?_⟩
  obtain ⟨_, _, h3⟩ := flt_ok (k4 i hi)
  obtain ⟨⟨a, b⟩, c, d⟩ := cdU_bd (C := C) (D := D) i (by omega) (by omega) (fun j hj => k4 j (by omega))
  rcases h3 with ⟨_, h4, h5, h6⟩ | ⟨_, h4, h5, h6, h7, _⟩
  · exact ⟨h5, by omega⟩
  · exact ⟨h6, by omega⟩

/-- The model's ImageOK tells b. -/
def OKIs (c s : ByteArray) (n : Nat) (S : Nat → SymD) (b : Bool) : Prop := ∀ p kk w, SymsAt w p n S → Calls Tryz.prog 15 #[.agg #[.string c, .string s, .slice p n kk]] w fun e w' => e = .returned (.bool b) ∧ Below w.heap.size w w'

/-- An answer of two numbers. -/
def TwoI (B : Nat) (x y : Int) (w : World) (e : Ending) (w' : World) : Prop := e = .returned (.tuple #[.int .i64 x, .int .i64 y]) ∧ Below B w w'

/-- AddressOf: what it answers. -/
def adX (S : Nat → SymD) (n : Nat) (b : Bool) (m : Int) : Int × Int := if b = false then (0, 1) else if m < 0 ∨ (n : Int) ≤ m then (0, 23) else (plI' S m.toNat, 0)
theorem specAddr (c s : ByteArray) (p : Option Addr) (n kk : Nat) (S : Nat → SymD) (b : Bool) (m : Int) (w : World) (hn : n ≤ 1048576) (hm : (Lit.int .i64 m).wf = true) (hb : OKIs c s n S b) (hok : b = true → SymsOK n S) (hp : SymsAt w p n S) :
    Calls Tryz.prog 23 #[.agg #[.string c, .string s, .slice p n kk], .int .i64 m] w fun e w' => TwoI w.heap.size (adX S n b m).1 (adX S n b m).2 w e w' := by
  have bA := grown1' w (.cells #[.string c, .string s, .slice p n kk] 30)
  have H := hb p kk _ (hp.below bA)
  have i2 : (w.alloc (.cells #[.string c, .string s, .slice p n kk] 30)).cell? ⟨w.heap.size, 2, none⟩ = some (.slice p n kk) := by simp
  have hl0 : w.heap.size < (w.alloc (.cells #[.string c, .string s, .slice p n kk] 30)).heap.size := by simp
  have hp1 := hp.below bA
  unfold adX
  cases b
  · rw [if_pos rfl]
    go_enter Tryz.func23, Tryz.ntmps23
    go_wp2_with fail
    refine H.mono ?_
    rintro e w2 ⟨rfl, hb2⟩
    have B2 := bA.trans (hb2.mono bA.size)
    clear hb2
    go_wp2_with fail
    go_ret2
    exact ⟨rfl, B2⟩
  · rw [if_neg (by decide)]
    by_cases hr : m < 0 ∨ (n : Int) ≤ m
    · rw [if_pos hr]
      go_enter Tryz.func23, Tryz.ntmps23
      go_wp2_with fail
      refine H.mono ?_
      rintro e w2 ⟨rfl, hb2⟩
      have B2 := bA.trans (hb2.mono bA.size)
      have j2 := (hb2.cell (p := ⟨w.heap.size, 2, none⟩) hl0).trans i2
      clear hb2 i2
      have key : m < 0 ∨ (0 ≤ m ∧ (n : Int) ≤ m) := by omega
      clear hr
      rcases key with k | ⟨k, l⟩
      all_goals
        go_wp2_with fail
        go_ret2
        exact ⟨rfl, B2⟩
    · rw [if_neg hr]
      obtain ⟨q, rfl⟩ := Int.eq_ofNat_of_zero_le (show 0 ≤ m by omega)
      have hq : q < n := by omega
      obtain ⟨h0, h1⟩ := (hok rfl).pl q hq
      have hpl := fun w' => placeSpec (S q).nm (S q).kd (S q).pl (S q).sz (S q).fr w' h0 h1
      show Calls _ _ _ _ fun e w' => TwoI w.heap.size (plI' S ((q : Int)).toNat) 0 w e w'
      rw [show ((q : Int)).toNat = q from by omega]
      unfold plI'
      obtain ⟨r, hr⟩ : ∃ r, (if (S q).kd = 1 then 4096 + (S q).pl else 16384 + (S q).pl) = r := ⟨_, rfl⟩
      rw [hr] at hpl ⊢
      clear hr hok
      go_enter Tryz.func23, Tryz.ntmps23
      go_wp2_with fail
      refine H.mono ?_
      rintro e w2 ⟨rfl, hb2⟩
      have B2 := bA.trans (hb2.mono bA.size)
      have j2 := (hb2.cell (p := ⟨w.heap.size, 2, none⟩) hl0).trans i2
      rcases hp1.below hb2 with hp2 | ⟨bb, o, rfl, hbb, hp2⟩
      · omega
      obtain ⟨x0, x1, x2, x3, x4⟩ := hp2.sym hq
      clear hb2 i2 hp1 hp2 H
      go_wp2_with fail
      refine (hpl _).mono ?_
      rintro e w3 ⟨rfl, hb3⟩
      have B3 := B2.trans (hb3.mono B2.size)
      clear hb3 x0 x1 x2 x3 x4 B2
      go_wp2_with fail
      go_ret2
      exact ⟨rfl, B3⟩

/-- The first symbol of a name. -/
inductive NamedIs (n : Nat) (S : Nat → SymD) (nm : ByteArray) : Int → Int → Prop
  | yes (k : Nat) (hk : k < n) (h : ∀ j, j < k → ((S j).nm.toList == nm.toList) = false) (he : ((S k).nm.toList == nm.toList) = true) : NamedIs n S nm k 0
  | no (h : ∀ j, j < n → ((S j).nm.toList == nm.toList) = false) : NamedIs n S nm 0 23
theorem named_ex (n : Nat) (S : Nat → SymD) (nm : ByteArray) : ∃ x y, NamedIs n S nm x y := by
  rcases first_ofP (fun j => ((S j).nm.toList == nm.toList) = false) n with h | ⟨k, h1, h2, h3⟩
  · exact ⟨_, _, .no h⟩
  · exact ⟨_, _, .yes k h1 h2 (by cases e : ((S k).nm.toList == nm.toList) <;> simp_all)⟩
set_option maxHeartbeats 2000000 in
theorem specNamed (c s nm : ByteArray) (p : Option Addr) (n kk : Nat) (S : Nat → SymD) (w : World) (hn : n ≤ 1048576) (hm : nm.size ≤ 65536) (hb : OKIs c s n S true) (hp : SymsAt w p n S) (x y : Int) (hl : NamedIs n S nm x y) :
    Calls Tryz.prog 25 #[.agg #[.string c, .string s, .slice p n kk], .string nm] w fun e w' => TwoI w.heap.size x y w e w' := by
  have bA := grown1' w (.cells #[.string c, .string s, .slice p n kk] 30)
  have H := hb p kk _ (hp.below bA)
  have i2 : (w.alloc (.cells #[.string c, .string s, .slice p n kk] 30)).cell? ⟨w.heap.size, 2, none⟩ = some (.slice p n kk) := by simp
  have hl0 : w.heap.size < (w.alloc (.cells #[.string c, .string s, .slice p n kk] 30)).heap.size := by simp
  have hp1 := hp.below bA
  go_enter Tryz.func25, Tryz.ntmps25
  go_wp2_with fail
  refine H.mono ?_
  rintro e w2 ⟨rfl, hb2⟩
  have B2 := bA.trans (hb2.mono bA.size)
  have j2 := (hb2.cell (p := ⟨w.heap.size, 2, none⟩) hl0).trans i2
  have hl2 := Nat.lt_of_lt_of_le hl0 hb2.size
  have hp2 := hp1.below hb2
  clear hb2 i2 hp1 H
  go_wp2_with fail
  go_loop [6] (fun i => ∃ k : Nat, k ≤ n ∧ i = .int .i64 k ∧ ∀ j, j < k → ((S j).nm.toList == nm.toList) = false) (fun i => n - (intOf i).toNat)
  case atStart => exact ⟨0, Nat.zero_le _, rfl, fun j hj => absurd hj (Nat.not_lt_zero _)⟩
  case round =>
    obtain ⟨k, hk, rfl, hno⟩ := hrel
    by_cases hlt : k < n
    · rcases hp2 with hp2 | ⟨bb, o, rfl, hbb, hp2⟩
      · omega
      have x0 := (hp2.sym hlt).1
      obtain ⟨nk, e0⟩ : ∃ s, (S k).nm = s := ⟨_, rfl⟩
      rw [e0] at x0
      by_cases he : (nk.toList == nm.toList) = true
      · obtain ⟨rfl, rfl⟩ : x = ((k : Nat) : Int) ∧ y = 0 := by
          cases hl with
          | yes j hj a b =>
            by_cases h1 : j < k
            · rw [hno j h1] at b; cases b
            · by_cases h2 : k < j
              · have := a k h2; rw [e0, he] at this; cases this
              · obtain rfl : j = k := by omega
                exact ⟨rfl, rfl⟩
          | no a => have := a k hlt; rw [e0, he] at this; cases this
        clear hp2 hno hl e0
        go_wp2_with fail
        go_ret2
        exact ⟨rfl, B2⟩
      · have he' : (nk.toList == nm.toList) = false := by cases e : (nk.toList == nm.toList) <;> simp_all
        have E0 : Hid (_ = nk) := e0
        clear hp2 e0 he
        go_wp2_with fail
        go_round
        case rel => exact ⟨k + 1, by omega, by go_num, fun j hj => by
          rcases Nat.lt_succ_iff_lt_or_eq.1 hj with h' | rfl
          · exact hno j h'
          · rw [E0.out]; exact he'⟩
        case measure => simp [intOf]; omega
    · obtain rfl : k = n := by omega
      obtain ⟨rfl, rfl⟩ : x = 0 ∧ y = 23 := by
        cases hl with
        | yes j hj a b => rw [hno j hj] at b; cases b
        | no => exact ⟨rfl, rfl⟩
      clear hno hl
      go_wp2_with fail
      go_ret2
      exact ⟨rfl, B2⟩
theorem specNamedLong (c s nm : ByteArray) (p : Option Addr) (n kk : Nat) (w : World) (hm : nm.size ≤ maxLen) (h : 65536 < nm.size) :
    Calls Tryz.prog 25 #[.agg #[.string c, .string s, .slice p n kk], .string nm] w fun e w' => TwoI w.heap.size 0 2 w e w' := by
  unfold maxLen at hm
  go_enter Tryz.func25, Tryz.ntmps25
  go_wp2_with fail
  go_ret2
  exact ⟨rfl, grown1' _ _⟩
theorem specNamedBad (c s nm : ByteArray) (p : Option Addr) (n kk : Nat) (S : Nat → SymD) (w : World) (hm : nm.size ≤ 65536) (hb : OKIs c s n S false) (hp : SymsAt w p n S) :
    Calls Tryz.prog 25 #[.agg #[.string c, .string s, .slice p n kk], .string nm] w fun e w' => TwoI w.heap.size 0 1 w e w' := by
  have bA := grown1' w (.cells #[.string c, .string s, .slice p n kk] 30)
  have H := hb p kk _ (hp.below bA)
  go_enter Tryz.func25, Tryz.ntmps25
  go_wp2_with fail
  refine H.mono ?_
  rintro e w2 ⟨rfl, hb2⟩
  have B2 := bA.trans (hb2.mono bA.size)
  clear hb2
  go_wp2_with fail
  go_ret2
  exact ⟨rfl, B2⟩

/-- The symbol in which an address lies. -/
inductive AtIs (n : Nat) (S : Nat → SymD) (a : Int) : Int → Int → Int → Prop
  | yes (k : Nat) (hk : k < n) (h : ∀ j, j < k → ¬ (plI' S j ≤ a ∧ a < plI' S j + (S j).sz)) (he : plI' S k ≤ a ∧ a < plI' S k + (S k).sz) : AtIs n S a k (a - plI' S k) 0
  | no (h : ∀ j, j < n → ¬ (plI' S j ≤ a ∧ a < plI' S j + (S j).sz)) : AtIs n S a 0 0 23
theorem at_ex (n : Nat) (S : Nat → SymD) (a : Int) : ∃ x y z, AtIs n S a x y z := by
  rcases first_ofP (fun j => ¬ (plI' S j ≤ a ∧ a < plI' S j + (S j).sz)) n with h | ⟨k, h1, h2, h3⟩
  · exact ⟨_, _, _, .no h⟩
  · exact ⟨_, _, _, .yes k h1 h2 (Classical.byContradiction h3)⟩
theorem specAtBad (c s : ByteArray) (p : Option Addr) (n kk : Nat) (S : Nat → SymD) (a : Int) (w : World) (hb : OKIs c s n S false) (hp : SymsAt w p n S) :
    Calls Tryz.prog 27 #[.agg #[.string c, .string s, .slice p n kk], .int .i64 a] w fun e w' => ThreeN w.heap.size 0 0 1 w e w' := by
  have bA := grown1' w (.cells #[.string c, .string s, .slice p n kk] 30)
  have H := hb p kk _ (hp.below bA)
  go_enter Tryz.func27, Tryz.ntmps27
  go_wp2_with fail
  refine H.mono ?_
  rintro e w2 ⟨rfl, hb2⟩
  have B2 := bA.trans (hb2.mono bA.size)
  clear hb2
  go_wp2_with fail
  refine bodyPost_ret (v := .tuple #[.int .i64 0, .int .i64 0, .int .i64 1]) (by simp [results, Tryz.results27, go_sem]) rfl ⟨rfl, B2⟩
set_option maxHeartbeats 4000000 in
theorem specAt (c s : ByteArray) (p : Option Addr) (n kk : Nat) (S : Nat → SymD) (a : Int) (w : World) (ha : (Lit.int .i64 a).wf = true) (hb : OKIs c s n S true) (hok : SymsOK n S) (hp : SymsAt w p n S) (x y z : Int) (hl : AtIs n S a x y z) :
    Calls Tryz.prog 27 #[.agg #[.string c, .string s, .slice p n kk], .int .i64 a] w fun e w' => ThreeN w.heap.size x y z w e w' := by
  have hn := hok.n16
  have bA := grown1' w (.cells #[.string c, .string s, .slice p n kk] 30)
  have H := hb p kk _ (hp.below bA)
  have i2 : (w.alloc (.cells #[.string c, .string s, .slice p n kk] 30)).cell? ⟨w.heap.size, 2, none⟩ = some (.slice p n kk) := by simp
  have hl0 : w.heap.size < (w.alloc (.cells #[.string c, .string s, .slice p n kk] 30)).heap.size := by simp
  have hp1 := hp.below bA
  obtain ⟨X, hX⟩ : ∃ X, w.heap.size = X := ⟨_, rfl⟩
  go_enter Tryz.func27, Tryz.ntmps27
  go_wp2_with fail
  refine H.mono ?_
  rintro e w2 ⟨rfl, hb2⟩
  have B2 : Hid (Below w.heap.size w w2) := bA.trans (hb2.mono bA.size)
  have j2 := (hb2.cell (p := ⟨w.heap.size, 2, none⟩) hl0).trans i2
  have hl2 := Nat.lt_of_lt_of_le hl0 hb2.size
  have hp2 := hp1.below hb2
  rw [hX] at j2 hl2
  clear hb2 i2 hp1 H bA hp
  go_wp2_with fail
  go_loopw [7] (fun i wr => ∃ k : Nat, k ≤ n ∧ i = .int .i64 k ∧ (∀ j, j < k → ¬ (plI' S j ≤ a ∧ a < plI' S j + (S j).sz)) ∧ Below w2.heap.size w2 wr) (fun i _ => n - (intOf i).toNat)
  case atStart => exact ⟨0, Nat.zero_le _, rfl, fun j hj => absurd hj (Nat.not_lt_zero _), Below.refl _ _⟩
  case round =>
    obtain ⟨k, hk, rfl, hno, hB⟩ := hrel
    have k2 := (hB.cell (p := ⟨X, 2, none⟩) hl2).trans j2
    have HN : Hid (∀ j, j < k → ¬ (plI' S j ≤ a ∧ a < plI' S j + (S j).sz)) := hno
    have hsz := hB.size
    have bel : Hid (Below w.heap.size w wr) := B2.out.trans (hB.mono B2.out.size)
    clear hno
    by_cases hlt : k < n
    · rcases hp2 with hp2 | ⟨bb, o, rfl, hbb, hp2⟩
      · omega
      obtain ⟨x0, x1, x2, x3, x4⟩ := (hp2.below hB hbb).sym hlt
      obtain ⟨h0, h1⟩ := hok.pl k hlt
      obtain ⟨s0, s1⟩ := hok.sz k hlt
      have hpl := fun w' => placeSpec (S k).nm (S k).kd (S k).pl (S k).sz (S k).fr w' h0 h1
      have hP : plI' S k = if (S k).kd = 1 then 4096 + (S k).pl else 16384 + (S k).pl := rfl
      have hPb : 0 ≤ plI' S k ∧ plI' S k ≤ 2000000 := by rw [hP]; split <;> omega
      rw [← hP] at hpl
      have hyes : plI' S k ≤ a ∧ a < plI' S k + (S k).sz → x = ((k : Nat) : Int) ∧ y = a - plI' S k ∧ z = 0 := by
        intro he
        cases hl with
        | yes j hj c' d =>
          by_cases h1 : j < k
          · exact absurd d (HN.out j h1)
          · by_cases h2 : k < j
            · exact absurd he (c' k h2)
            · obtain rfl : j = k := by omega
              exact ⟨rfl, rfl, rfl⟩
        | no c' => exact absurd he (c' k hlt)
      obtain ⟨nm, e0⟩ : ∃ s, (S k).nm = s := ⟨_, rfl⟩
      obtain ⟨kd, e1⟩ : ∃ s, (S k).kd = s := ⟨_, rfl⟩
      obtain ⟨pl, e2⟩ : ∃ s, (S k).pl = s := ⟨_, rfl⟩
      obtain ⟨sz, e3⟩ : ∃ s, (S k).sz = s := ⟨_, rfl⟩
      obtain ⟨fr, e4⟩ : ∃ s, (S k).fr = s := ⟨_, rfl⟩
      obtain ⟨pp, e5⟩ : ∃ s, plI' S k = s := ⟨_, rfl⟩
      rw [e0] at x0 hpl
      rw [e1] at x1 hpl
      rw [e2] at x2 hpl
      rw [e3] at x3 hpl hyes s0 s1
      rw [e4] at x4 hpl
      rw [e5] at hpl hyes hPb
      have E3 : Hid (_ = sz) := e3
      have E5 : Hid (_ = pp) := e5
      have HPL : Hid (∀ w' : World, _) := hpl
      have HY : Hid (pp ≤ a ∧ a < pp + sz → x = ((k : Nat) : Int) ∧ y = a - pp ∧ z = 0) := hyes
      have hrow := hp2.below hB hbb
      clear e0 e1 e2 e3 e4 e5 hpl hyes hP hp2 hl h0 h1
      go_wp2_with fail
      refine (HPL.out _).mono ?_
      rintro e w3 ⟨rfl, hb3⟩
      have B3 := hB.trans (hb3.mono hsz)
      have bel3 : Hid (Below w.heap.size w w3) := bel.out.trans (hb3.mono bel.out.size)
      have l2 := (B3.cell (p := ⟨X, 2, none⟩) hl2).trans j2
      have y3 := (hb3.cell (p := ⟨bb, o + k * 5 + 3, none⟩) (Nat.lt_of_lt_of_le hbb hsz)).trans x3
      clear x0 x1 x2 x3 x4 hb3 hrow k2 HPL bel
      by_cases h1 : pp ≤ a
      · by_cases h2 : a < pp + sz
        · obtain ⟨rfl, rfl, rfl⟩ := HY.out ⟨h1, h2⟩
          go_wp2_with fail
          refine bodyPost_ret (v := .tuple #[.int .i64 k, .int .i64 (a - pp), .int .i64 0]) (by simp [results, Tryz.results27, go_sem]) rfl ⟨rfl, bel3.out⟩
        · go_wp2_with fail
          go_roundw
          case rel => exact ⟨k + 1, by omega, by go_num, fun j hj => by
            rcases Nat.lt_succ_iff_lt_or_eq.1 hj with h' | rfl
            · exact HN.out j h'
            · rw [E3.out, E5.out]; omega, B3⟩
          case measure => simp [intOf]; omega
      · go_wp2_with fail
        go_roundw
        case rel => exact ⟨k + 1, by omega, by go_num, fun j hj => by
          rcases Nat.lt_succ_iff_lt_or_eq.1 hj with h' | rfl
          · exact HN.out j h'
          · rw [E3.out, E5.out]; omega, B3⟩
        case measure => simp [intOf]; omega
    · obtain rfl : k = n := by omega
      obtain ⟨rfl, rfl, rfl⟩ : x = 0 ∧ y = 0 ∧ z = 23 := by
        cases hl with
        | yes j hj c' d => exact absurd d (HN.out j hj)
        | no => exact ⟨rfl, rfl, rfl⟩
      clear hl
      go_wp2_with fail
      refine bodyPost_ret (v := .tuple #[.int .i64 0, .int .i64 0, .int .i64 23]) (by simp [results, Tryz.results27, go_sem]) rfl ⟨rfl, bel.out⟩
/-- An answer of one truth. -/
def OneB (B : Nat) (x : Bool) (w : World) (e : Ending) (w' : World) : Prop := e = .returned (.bool x) ∧ Below B w w'
/-- The program's ImageOK tells b. -/
def PrOK (c s : ByteArray) (n : Nat) (S : Nat → SymD) (b : Bool) : Prop := ∀ p kk w, n ≤ kk → Laid w → SymsAt w p n S → Calls Tryz.prog 16 #[.agg #[.string c, .string s, .slice p n kk]] w fun e w' => OneB w.heap.size b w e w'
end Go.Proofs.YthihlbfmpkjhpaaGreatDoor

namespace Go.Proofs.YthihlbfmpkjhpaaGreatDoor
open Go Go.RowKit
set_option linter.unusedVariables false

theorem progOK (c s : ByteArray) (n : Nat) (S : Nat → SymD) (x y z : Int) (h : ∀ p kk w, n ≤ kk → Laid w → SymsAt w p n S → Calls Tryz.prog 13 #[.agg #[.string c, .string s, .slice p n kk]] w fun e w' => ThreeN w.heap.size x y z w e w') : PrOK c s n S (z == 0) := by
  intro p kk w hkk hL hp
  have bA := grown1' w (.cells #[.string c, .string s, .slice p n kk] 30)
  have H := h p kk _ hkk (laid_below hL bA) (hp.below bA)
  go_enter Tryz.func16, Tryz.ntmps16
  go_wp2_with fail
  refine H.mono ?_
  rintro e w2 ⟨rfl, hb2⟩
  have B2 := bA.trans (hb2.mono bA.size)
  clear hb2
  go_wp2_with fail
  go_ret
  exact ⟨rfl, B2⟩

theorem progAddr (c s : ByteArray) (p : Option Addr) (n kk : Nat) (S : Nat → SymD) (b : Bool) (m : Int) (w : World) (hkk : n ≤ kk) (hn : n ≤ 1048576) (hm : (Lit.int .i64 m).wf = true) (hb : PrOK c s n S b) (hok : b = true → SymsOK n S) (hL : Laid w) (hp : SymsAt w p n S) :
    Calls Tryz.prog 24 #[.agg #[.string c, .string s, .slice p n kk], .int .i64 m] w fun e w' => TwoI w.heap.size (adX S n b m).1 (adX S n b m).2 w e w' := by
  have bA := grown1' w (.cells #[.string c, .string s, .slice p n kk] 30)
  have H := hb p kk _ hkk (laid_below hL bA) (hp.below bA)
  have i2 : (w.alloc (.cells #[.string c, .string s, .slice p n kk] 30)).cell? ⟨w.heap.size, 2, none⟩ = some (.slice p n kk) := by simp
  have hl0 : w.heap.size < (w.alloc (.cells #[.string c, .string s, .slice p n kk] 30)).heap.size := by simp
  have hp1 := hp.below bA
  clear hL
  unfold adX
  cases b
  · rw [if_pos rfl]
    go_enter Tryz.func24, Tryz.ntmps24
    go_wp2_with fail
    refine H.mono ?_
    rintro e w2 ⟨rfl, hb2⟩
    have B2 := bA.trans (hb2.mono bA.size)
    clear hb2
    go_wp2_with fail
    go_ret2
    exact ⟨rfl, B2⟩
  · rw [if_neg (by decide)]
    by_cases hr : m < 0 ∨ (n : Int) ≤ m
    · rw [if_pos hr]
      have key : m < 0 ∨ (0 ≤ m ∧ (n : Int) ≤ m) := by omega
      clear hr
      rcases key with k | ⟨k, l⟩
      all_goals
        go_enter Tryz.func24, Tryz.ntmps24
        go_wp2_with fail
        refine H.mono ?_
        rintro e w2 ⟨rfl, hb2⟩
        have B2 := bA.trans (hb2.mono bA.size)
        have j2 := (hb2.cell (p := ⟨w.heap.size, 2, none⟩) hl0).trans i2
        clear hb2 i2
        go_wp2_with fail
        go_ret2
        exact ⟨rfl, B2⟩
    · rw [if_neg hr]
      obtain ⟨q, rfl⟩ := Int.eq_ofNat_of_zero_le (show 0 ≤ m by omega)
      have hq : q < n := by omega
      obtain ⟨h0, h1⟩ := (hok rfl).pl q hq
      have hpl := fun w' => placeImpl (S q).nm (S q).kd (S q).pl (S q).sz (S q).fr w' h0 h1
      show Calls _ _ _ _ fun e w' => TwoI w.heap.size (plI' S ((q : Int)).toNat) 0 w e w'
      rw [show ((q : Int)).toNat = q from by omega]
      unfold plI'
      obtain ⟨r, hr⟩ : ∃ r, (if (S q).kd = 1 then 4096 + (S q).pl else 16384 + (S q).pl) = r := ⟨_, rfl⟩
      rw [hr] at hpl ⊢
      clear hr hok
      go_enter Tryz.func24, Tryz.ntmps24
      go_wp2_with fail
      refine H.mono ?_
      rintro e w2 ⟨rfl, hb2⟩
      have B2 := bA.trans (hb2.mono bA.size)
      have j2 := (hb2.cell (p := ⟨w.heap.size, 2, none⟩) hl0).trans i2
      rcases hp1.below hb2 with hp2 | ⟨bb, o, rfl, hbb, hp2⟩
      · omega
      obtain ⟨x0, x1, x2, x3, x4⟩ := hp2.sym hq
      clear hb2 i2 hp1 hp2 H
      go_wp2_with fail
      refine (hpl _).mono ?_
      rintro e w3 ⟨rfl, hb3⟩
      have B3 := B2.trans (hb3.mono B2.size)
      clear hb3 x0 x1 x2 x3 x4 B2
      go_wp2_with fail
      go_ret2
      exact ⟨rfl, B3⟩

theorem progNamedLong (c s nm : ByteArray) (p : Option Addr) (n kk : Nat) (w : World) (hm : nm.size ≤ maxLen) (h : 65536 < nm.size) :
    Calls Tryz.prog 26 #[.agg #[.string c, .string s, .slice p n kk], .string nm] w fun e w' => TwoI w.heap.size 0 2 w e w' := by
  unfold maxLen at hm
  go_enter Tryz.func26, Tryz.ntmps26
  go_wp2_with fail
  go_ret2
  exact ⟨rfl, grown1' _ _⟩
theorem progNamedBad (c s nm : ByteArray) (p : Option Addr) (n kk : Nat) (S : Nat → SymD) (w : World) (hkk : n ≤ kk) (hm : nm.size ≤ 65536) (hb : PrOK c s n S false) (hL : Laid w) (hp : SymsAt w p n S) :
    Calls Tryz.prog 26 #[.agg #[.string c, .string s, .slice p n kk], .string nm] w fun e w' => TwoI w.heap.size 0 1 w e w' := by
  have bA := grown1' w (.cells #[.string c, .string s, .slice p n kk] 30)
  have H := hb p kk _ hkk (laid_below hL bA) (hp.below bA)
  clear hL
  go_enter Tryz.func26, Tryz.ntmps26
  go_wp2_with fail
  refine H.mono ?_
  rintro e w2 ⟨rfl, hb2⟩
  have B2 := bA.trans (hb2.mono bA.size)
  clear hb2
  go_wp2_with fail
  go_ret2
  exact ⟨rfl, B2⟩
theorem progNamed (c s nm : ByteArray) (p : Option Addr) (n kk : Nat) (S : Nat → SymD) (w : World) (hkk : n ≤ kk) (hn : n ≤ 1048576) (hm : nm.size ≤ 65536) (hb : PrOK c s n S true) (hL : Laid w) (hp : SymsAt w p n S) (x y : Int) (hl : NamedIs n S nm x y) :
    Calls Tryz.prog 26 #[.agg #[.string c, .string s, .slice p n kk], .string nm] w fun e w' => TwoI w.heap.size x y w e w' := by
  have bA := grown1' w (.cells #[.string c, .string s, .slice p n kk] 30)
  have H := hb p kk _ hkk (laid_below hL bA) (hp.below bA)
  have i2 : (w.alloc (.cells #[.string c, .string s, .slice p n kk] 30)).cell? ⟨w.heap.size, 2, none⟩ = some (.slice p n kk) := by simp
  have hl0 : w.heap.size < (w.alloc (.cells #[.string c, .string s, .slice p n kk] 30)).heap.size := by simp
  have hp1 := hp.below bA
  obtain ⟨r, hr⟩ := fstNm_ex n S nm
  have key : (0 ≤ r ∧ x = r ∧ y = 0) ∨ (r = -1 ∧ x = 0 ∧ y = 23) := by
    cases hl with
    | yes k hk a b => have := hr.at hk a b; exact .inl ⟨by omega, this.symm, rfl⟩
    | no a => exact .inr ⟨hr.end a, rfl, rfl⟩
  clear hL hl
  go_enter Tryz.func26, Tryz.ntmps26
  go_wp2_with fail
  refine H.mono ?_
  rintro e w2 ⟨rfl, hb2⟩
  have B2 := bA.trans (hb2.mono bA.size)
  have j2 := (hb2.cell (p := ⟨w.heap.size, 2, none⟩) hl0).trans i2
  have hp2 := hp1.below hb2
  clear hb2 i2 hp1 H
  go_wp2_with fail
  refine (named p n kk S nm w2 hn hp2 r hr).mono ?_
  rintro e w3 ⟨rfl, hb3⟩
  have B3 := B2.trans (hb3.mono B2.size)
  clear hb3 hp2 B2 hr j2
  rcases key with ⟨k, rfl, rfl⟩ | ⟨rfl, rfl, rfl⟩
  all_goals
    go_wp2_with fail
    go_ret2
    exact ⟨rfl, B3⟩

theorem progAtBad (c s : ByteArray) (p : Option Addr) (n kk : Nat) (S : Nat → SymD) (a : Int) (w : World) (hkk : n ≤ kk) (hb : PrOK c s n S false) (hL : Laid w) (hp : SymsAt w p n S) :
    Calls Tryz.prog 28 #[.agg #[.string c, .string s, .slice p n kk], .int .i64 a] w fun e w' => ThreeN w.heap.size 0 0 1 w e w' := by
  have bA := grown1' w (.cells #[.string c, .string s, .slice p n kk] 30)
  have H := hb p kk _ hkk (laid_below hL bA) (hp.below bA)
  clear hL
  go_enter Tryz.func28, Tryz.ntmps28
  go_wp2_with fail
  refine H.mono ?_
  rintro e w2 ⟨rfl, hb2⟩
  have B2 := bA.trans (hb2.mono bA.size)
  clear hb2
  go_wp2_with fail
  refine bodyPost_ret (v := .tuple #[.int .i64 0, .int .i64 0, .int .i64 1]) (by simp [results, Tryz.results28, go_sem]) rfl ⟨rfl, B2⟩
set_option maxHeartbeats 4000000 in
theorem progAt (c s : ByteArray) (p : Option Addr) (n kk : Nat) (S : Nat → SymD) (a : Int) (w : World) (hkk : n ≤ kk) (ha : (Lit.int .i64 a).wf = true) (hb : PrOK c s n S true) (hok : SymsOK n S) (hL : Laid w) (hp : SymsAt w p n S) (x y z : Int) (hl : AtIs n S a x y z) :
    Calls Tryz.prog 28 #[.agg #[.string c, .string s, .slice p n kk], .int .i64 a] w fun e w' => ThreeN w.heap.size x y z w e w' := by
  have hn := hok.n16
  have bA := grown1' w (.cells #[.string c, .string s, .slice p n kk] 30)
  have H := hb p kk _ hkk (laid_below hL bA) (hp.below bA)
  have i2 : (w.alloc (.cells #[.string c, .string s, .slice p n kk] 30)).cell? ⟨w.heap.size, 2, none⟩ = some (.slice p n kk) := by simp
  have hl0 : w.heap.size < (w.alloc (.cells #[.string c, .string s, .slice p n kk] 30)).heap.size := by simp
  have hp1 := hp.below bA
  obtain ⟨X, hX⟩ : ∃ X, w.heap.size = X := ⟨_, rfl⟩
  clear hL
  go_enter Tryz.func28, Tryz.ntmps28
  go_wp2_with fail
  refine H.mono ?_
  rintro e w2 ⟨rfl, hb2⟩
  have B2 : Hid (Below w.heap.size w w2) := bA.trans (hb2.mono bA.size)
  have j2 := (hb2.cell (p := ⟨w.heap.size, 2, none⟩) hl0).trans i2
  have hl2 := Nat.lt_of_lt_of_le hl0 hb2.size
  have hp2 := hp1.below hb2
  rw [hX] at j2 hl2
  clear hb2 i2 hp1 H bA hp
  go_wp2_with fail
  go_loopw [16] (fun i wr => ∃ k : Nat, k ≤ n ∧ i = .int .i64 k ∧ (∀ j, j < k → ¬ (plI' S j ≤ a ∧ a < plI' S j + (S j).sz)) ∧ Below w2.heap.size w2 wr) (fun i _ => n - (intOf i).toNat)
  case atStart => exact ⟨0, Nat.zero_le _, rfl, fun j hj => absurd hj (Nat.not_lt_zero _), Below.refl _ _⟩
  case round =>
    obtain ⟨k, hk, rfl, hno, hB⟩ := hrel
    have k2 := (hB.cell (p := ⟨X, 2, none⟩) hl2).trans j2
    have HN : Hid (∀ j, j < k → ¬ (plI' S j ≤ a ∧ a < plI' S j + (S j).sz)) := hno
    have hsz := hB.size
    have bel : Hid (Below w.heap.size w wr) := B2.out.trans (hB.mono B2.out.size)
    clear hno
    by_cases hlt : k < n
    · rcases hp2 with hp2 | ⟨bb, o, rfl, hbb, hp2⟩
      · omega
      obtain ⟨x0, x1, x2, x3, x4⟩ := (hp2.below hB hbb).sym hlt
      obtain ⟨h0, h1⟩ := hok.pl k hlt
      obtain ⟨s0, s1⟩ := hok.sz k hlt
      have hpl := fun w' => placeImpl (S k).nm (S k).kd (S k).pl (S k).sz (S k).fr w' h0 h1
      have hP : plI' S k = if (S k).kd = 1 then 4096 + (S k).pl else 16384 + (S k).pl := rfl
      have hPb : 0 ≤ plI' S k ∧ plI' S k ≤ 2000000 := by rw [hP]; split <;> omega
      rw [← hP] at hpl
      have hyes : plI' S k ≤ a ∧ a < plI' S k + (S k).sz → x = ((k : Nat) : Int) ∧ y = a - plI' S k ∧ z = 0 := by
        intro he
        cases hl with
        | yes j hj c' d =>
          by_cases h1 : j < k
          · exact absurd d (HN.out j h1)
          · by_cases h2 : k < j
            · exact absurd he (c' k h2)
            · obtain rfl : j = k := by omega
              exact ⟨rfl, rfl, rfl⟩
        | no c' => exact absurd he (c' k hlt)
      obtain ⟨nm, e0⟩ : ∃ s, (S k).nm = s := ⟨_, rfl⟩
      obtain ⟨kd, e1⟩ : ∃ s, (S k).kd = s := ⟨_, rfl⟩
      obtain ⟨pl, e2⟩ : ∃ s, (S k).pl = s := ⟨_, rfl⟩
      obtain ⟨sz, e3⟩ : ∃ s, (S k).sz = s := ⟨_, rfl⟩
      obtain ⟨fr, e4⟩ : ∃ s, (S k).fr = s := ⟨_, rfl⟩
      obtain ⟨pp, e5⟩ : ∃ s, plI' S k = s := ⟨_, rfl⟩
      rw [e0] at x0 hpl
      rw [e1] at x1 hpl
      rw [e2] at x2 hpl
      rw [e3] at x3 hpl hyes s0 s1
      rw [e4] at x4 hpl
      rw [e5] at hpl hyes hPb
      have E3 : Hid (_ = sz) := e3
      have E5 : Hid (_ = pp) := e5
      have HPL : Hid (∀ w' : World, _) := hpl
      have HY : Hid (pp ≤ a ∧ a < pp + sz → x = ((k : Nat) : Int) ∧ y = a - pp ∧ z = 0) := hyes
      have bX := grown1' wr (.cells #[.string nm, .int .i64 kd, .int .i64 pl, .int .i64 sz, .int .i64 fr] 76)
      have z3 : (wr.alloc (.cells #[.string nm, .int .i64 kd, .int .i64 pl, .int .i64 sz, .int .i64 fr] 76)).cell? ⟨wr.heap.size, 3, none⟩ = some (.int .i64 sz) := by simp
      have zl : wr.heap.size < (wr.alloc (.cells #[.string nm, .int .i64 kd, .int .i64 pl, .int .i64 sz, .int .i64 fr] 76)).heap.size := by simp
      have hB1 := hB.trans (bX.mono hsz)
      have bel1 : Hid (Below w.heap.size w (wr.alloc (.cells #[.string nm, .int .i64 kd, .int .i64 pl, .int .i64 sz, .int .i64 fr] 76))) := bel.out.trans (bX.mono bel.out.size)
      clear e0 e1 e2 e3 e4 e5 hpl hyes hP hp2 hl h0 h1 bX
      go_wp2_with fail
      refine (HPL.out _).mono ?_
      rintro e w3 ⟨rfl, hb3⟩
      have B3 := hB1.trans (hb3.mono hB1.size)
      have bel3 : Hid (Below w.heap.size w w3) := bel1.out.trans (hb3.mono bel1.out.size)
      have l2 := (B3.cell (p := ⟨X, 2, none⟩) hl2).trans j2
      have y3 := (hb3.cell (p := ⟨wr.heap.size, 3, none⟩) zl).trans z3
      clear x0 x1 x2 x3 x4 hb3 k2 HPL bel bel1 hB1 z3 zl
      by_cases h1 : pp ≤ a
      · by_cases h2 : a < pp + sz
        · obtain ⟨rfl, rfl, rfl⟩ := HY.out ⟨h1, h2⟩
          go_wp2_with fail
          refine bodyPost_ret (v := .tuple #[.int .i64 k, .int .i64 (a - pp), .int .i64 0]) (by simp [results, Tryz.results28, go_sem]) rfl ⟨rfl, bel3.out⟩
        · go_wp2_with fail
          go_roundw
          case rel => exact ⟨k + 1, by omega, by go_num, fun j hj => by
            rcases Nat.lt_succ_iff_lt_or_eq.1 hj with h' | rfl
            · exact HN.out j h'
            · rw [E3.out, E5.out]; omega, B3⟩
          case measure => simp [intOf]; omega
      · go_wp2_with fail
        go_roundw
        case rel => exact ⟨k + 1, by omega, by go_num, fun j hj => by
          rcases Nat.lt_succ_iff_lt_or_eq.1 hj with h' | rfl
          · exact HN.out j h'
          · rw [E3.out, E5.out]; omega, B3⟩
        case measure => simp [intOf]; omega
    · obtain rfl : k = n := by omega
      obtain ⟨rfl, rfl, rfl⟩ : x = 0 ∧ y = 0 ∧ z = 23 := by
        cases hl with
        | yes j hj c' d => exact absurd d (HN.out j hj)
        | no => exact ⟨rfl, rfl, rfl⟩
      clear hl
      go_wp2_with fail
      refine bodyPost_ret (v := .tuple #[.int .i64 0, .int .i64 0, .int .i64 23]) (by simp [results, Tryz.results28, go_sem]) rfl ⟨rfl, bel.out⟩
end Go.Proofs.YthihlbfmpkjhpaaGreatDoor

namespace Go.Proofs.YthihlbfmpkjhpaaGreatDoor
open Go Go.RowKit
set_option linter.unusedVariables false

theorem imgBoth (c s : ByteArray) (n : Nat) (S : Nat → SymD) (hc : c.size ≤ 1048576) (hs : s.size ≤ 1048576) (hn : n ≤ 1048576) (hw : ∀ i, i < n → (S i).wf) : ∃ x y z : Int,
    (∀ p kk w, SymsAt w p n S → Calls Tryz.prog 11 #[.agg #[.string c, .string s, .slice p n kk]] w fun e w' => ThreeN w.heap.size x y z w e w') ∧
    (∀ p kk w, n ≤ kk → Laid w → SymsAt w p n S → Calls Tryz.prog 13 #[.agg #[.string c, .string s, .slice p n kk]] w fun e w' => ThreeN w.heap.size x y z w e w') ∧
    OKIs c s n S (z == 0) ∧ (z = 0 → SymsOK n S) := by
  obtain ⟨L, hL⟩ := lint_all c s n S hw
  obtain ⟨x, y, z, hl⟩ := img_ex n c.size s.size S L
  have h7 : ∀ p kk w', SymsAt w' p n S → Calls Tryz.prog 30 #[.agg #[.string c, .string s, .slice p n kk]] w' fun e w'' => ThreeN w'.heap.size x y z w' e w'' :=
    fun p kk w' hp => specImg c s p n kk S L w' hc hs hn hw hp x y z hl (fun h i hi hk => (hL h i hi hk).1)
  refine ⟨x, y, z, fun p kk w hp => specLintI c s p n kk S x y z w (h7 p kk) hp, fun p kk w hkk hLd hp => progImg c s p n kk S L w hLd hkk hc hs hn hw hp x y z hl hL, fun p kk w hp => specOK c s p n kk S x y z w (h7 p kk) hp, fun h => ?_⟩
  subst h
  exact hl.right
theorem okBoth (c s : ByteArray) (n : Nat) (S : Nat → SymD) (hc : c.size ≤ 1048576) (hs : s.size ≤ 1048576) (hn : n ≤ 1048576) (hw : ∀ i, i < n → (S i).wf) : ∃ x : Bool,
    (∀ p kk w, SymsAt w p n S → Calls Tryz.prog 15 #[.agg #[.string c, .string s, .slice p n kk]] w fun e w' => OneB w.heap.size x w e w') ∧
    (∀ p kk w, n ≤ kk → Laid w → SymsAt w p n S → Calls Tryz.prog 16 #[.agg #[.string c, .string s, .slice p n kk]] w fun e w' => OneB w.heap.size x w e w') := by
  obtain ⟨x, y, z, _, hI, hO, _⟩ := imgBoth c s n S hc hs hn hw
  exact ⟨z == 0, hO, progOK c s n S x y z hI⟩
theorem addrBoth (c s : ByteArray) (n : Nat) (S : Nat → SymD) (m : Int) (hc : c.size ≤ 1048576) (hs : s.size ≤ 1048576) (hn : n ≤ 1048576) (hw : ∀ i, i < n → (S i).wf) (hm : (Lit.int .i64 m).wf = true) : ∃ x y : Int,
    (∀ p kk w, SymsAt w p n S → Calls Tryz.prog 23 #[.agg #[.string c, .string s, .slice p n kk], .int .i64 m] w fun e w' => TwoI w.heap.size x y w e w') ∧
    (∀ p kk w, n ≤ kk → Laid w → SymsAt w p n S → Calls Tryz.prog 24 #[.agg #[.string c, .string s, .slice p n kk], .int .i64 m] w fun e w' => TwoI w.heap.size x y w e w') := by
  obtain ⟨x, y, z, _, hI, hO, hz⟩ := imgBoth c s n S hc hs hn hw
  have hok : (z == 0) = true → SymsOK n S := fun h => hz (eq_of_beq h)
  exact ⟨_, _, fun p kk w hp => specAddr c s p n kk S (z == 0) m w hn hm hO hok hp, fun p kk w hkk hL hp => progAddr c s p n kk S (z == 0) m w hkk hn hm (progOK c s n S x y z hI) hok hL hp⟩
theorem namedBoth (c s : ByteArray) (n : Nat) (S : Nat → SymD) (nm : ByteArray) (hc : c.size ≤ 1048576) (hs : s.size ≤ 1048576) (hn : n ≤ 1048576) (hw : ∀ i, i < n → (S i).wf) (hm : nm.size ≤ maxLen) : ∃ x y : Int,
    (∀ p kk w, SymsAt w p n S → Calls Tryz.prog 25 #[.agg #[.string c, .string s, .slice p n kk], .string nm] w fun e w' => TwoI w.heap.size x y w e w') ∧
    (∀ p kk w, n ≤ kk → Laid w → SymsAt w p n S → Calls Tryz.prog 26 #[.agg #[.string c, .string s, .slice p n kk], .string nm] w fun e w' => TwoI w.heap.size x y w e w') := by
  by_cases hl : 65536 < nm.size
  · exact ⟨0, 2, fun p kk w _ => specNamedLong c s nm p n kk w hm hl, fun p kk w _ hL hp => progNamedLong c s nm p n kk w hm hl⟩
  obtain ⟨x, y, z, _, hI, hO, hz⟩ := imgBoth c s n S hc hs hn hw
  have hP := progOK c s n S x y z hI
  cases hb : (z == 0)
  · rw [hb] at hO hP
    exact ⟨0, 1, fun p kk w hp => specNamedBad c s nm p n kk S w (by omega) hO hp, fun p kk w hkk hL hp => progNamedBad c s nm p n kk S w hkk (by omega) hP hL hp⟩
  · rw [hb] at hO hP
    obtain ⟨x, y, hn'⟩ := named_ex n S nm
    exact ⟨x, y, fun p kk w hp => specNamed c s nm p n kk S w hn (by omega) hO hp x y hn', fun p kk w hkk hL hp => progNamed c s nm p n kk S w hkk hn (by omega) hP hL hp x y hn'⟩
theorem atBoth (c s : ByteArray) (n : Nat) (S : Nat → SymD) (a : Int) (hc : c.size ≤ 1048576) (hs : s.size ≤ 1048576) (hn : n ≤ 1048576) (hw : ∀ i, i < n → (S i).wf) (ha : (Lit.int .i64 a).wf = true) : ∃ x y z : Int,
    (∀ p kk w, SymsAt w p n S → Calls Tryz.prog 27 #[.agg #[.string c, .string s, .slice p n kk], .int .i64 a] w fun e w' => ThreeN w.heap.size x y z w e w') ∧
    (∀ p kk w, n ≤ kk → Laid w → SymsAt w p n S → Calls Tryz.prog 28 #[.agg #[.string c, .string s, .slice p n kk], .int .i64 a] w fun e w' => ThreeN w.heap.size x y z w e w') := by
  obtain ⟨x, y, z, _, hI, hO, hz⟩ := imgBoth c s n S hc hs hn hw
  have hP := progOK c s n S x y z hI
  cases hb : (z == 0)
  · rw [hb] at hO hP
    exact ⟨0, 0, 1, fun p kk w hp => specAtBad c s p n kk S a w hO hp, fun p kk w hkk hL hp => progAtBad c s p n kk S a w hkk hP hL hp⟩
  · rw [hb] at hO hP
    have hok := hz (eq_of_beq hb)
    obtain ⟨x, y, z, hn'⟩ := at_ex n S a
    exact ⟨x, y, z, fun p kk w hp => specAt c s p n kk S a w ha hO hok hp x y z hn', fun p kk w hkk hL hp => progAt c s p n kk S a w hkk ha hP hok hL hp x y z hn'⟩
end Go.Proofs.YthihlbfmpkjhpaaGreatDoor
