/- The model's rule for one instruction. The program's LintFunction. Both LintFunction. The model's check of functions, whole; both checks. The program's CallsOf. The model's CallsOf; both. Both CallsOf. All that a law asks of the text of a function that holds to the rules. Draws of registers, frames, and one of some numbers: contracts. The pieces of which bodies of functions are drawn: each holds to the rules. A piece of a body is drawn: contract. A function that holds to the rules is drawn: contract. From the shell's rows to bytes. Bodies and frames of functions drawn for a law: contracts. Texts drawn out of a source: as long as asked. Sources, texts drawn out of them, choices: contracts. A function drawn, perhaps with a word changed: contracts. The contracts of a law over shapes: prologue and epilogue of the program, the text spoiled. The law FnShape, walked. -/
import Derived.Test.YtiandbhcjecphaaGreatDoorGLShape37
import Derived.Test.YtiandbhcjecphaaGreatDoorGLShape38
import Derived.Test.YtiandbhcjecphaaGreatDoorGLShape34
import Derived.Test.YtiandbhcjecphaaGreatDoorGLShape36
import Derived.Test.YtiandbhcjecphaaGreatDoorGLShape1
import Derived.Test.YtiandbhcjecphaaGreatDoorGLShape31
import Derived.Test.YtiandbhcjecphaaGreatDoorGLShape27
import Derived.Test.YtiandbhcjecphaaGreatDoorGLShape33
import Derived.Deep.AppendLies
import Derived.Test.YtiandbhcjecphaaGreatDoorGLShape26
import Derived.OpenShut
import Derived.Deep.RegionWith
import Derived.Test.YtiandbhcjecphaaGreatDoorGLShape28
import Derived.Deep.RegionHeld3
namespace Go.Proofs.YtiandbhcjecphaaGreatDoor
open Go Go.RowKit
set_option linter.unusedVariables false

section
variable {g N c : Nat} {pc : Option Addr} {cc : Nat} {at' f : Int} {R : Nat → Int} {zs : List Int}
theorem specRule (i : Nat) (w : World) (h : MdIs w g N R pc zs) (hi : i < N) (h2 : 2 ≤ i) (hN : N ≤ 64) (hf : frB f = true) (a0 : 0 ≤ at') (a1 : at' ≤ 1048575) (hz : zs.length ≤ 1048576) (hs : Small5 R i) :
    Calls Tryz.prog 60 #[.slice (some ⟨g, 0, none⟩) N c, .int .i64 i, .int .i64 at', .int .i64 f, .slice pc zs.length cc] w fun e w' => e = .returned (.int .i64 (ruI R N f at' zs wdN i)) ∧ Below w.heap.size w w' := by
  by_cases h4 : R (i * 5) = 4
  · exact sruJalr i w h hi h2 hN hf a0 a1 hz hs h4
  by_cases h3 : R (i * 5) = 3
  · exact sruJal i w h hi h2 hN hf a0 a1 hz hs h3
  by_cases hbr : 5 ≤ R (i * 5) ∧ R (i * 5) ≤ 10
  · exact sruBr i w h hi h2 hN hf a0 a1 hz hs hbr
  rw [ru_plain h4 h3 hbr]
  obtain ⟨f0, f1, _⟩ := frB_bd hf
  have E := fun (j : Nat) w' (h1 : MdIs w' g N R pc zs) (hj : j < 1000) => specEnds g N c j f R w' h1.lg hf hN hj h1.l
  obtain ⟨op, ho⟩ : ∃ op, R (i * 5) = op := ⟨_, rfl⟩
  obtain ⟨rd, hr⟩ : ∃ rd, R (i * 5 + 1) = rd := ⟨_, rfl⟩
  obtain ⟨r1, hr1⟩ : ∃ r1, R (i * 5 + 2) = r1 := ⟨_, rfl⟩
  obtain ⟨r2, hr2'⟩ : ∃ r2, R (i * 5 + 3) = r2 := ⟨_, rfl⟩
  obtain ⟨im, him⟩ : ∃ im, R (i * 5 + 4) = im := ⟨_, rfl⟩
  have o0 := hs.o0
  have o1 := hs.o1
  rw [ho] at o0 o1 h4 h3 hbr
  have h4b : (op == 4) = false := by simpa using h4
  have h3b : (op == 3) = false := by simpa using h3
  have hfb := form_branch op o0 o1
  obtain ⟨⟨f4, fc, fg, fh⟩, hsq⟩ : ∃ s, shT op = s := ⟨_, rfl⟩
  rw [hsq] at hfb
  have hf4b : (f4 == 4) = false := by
    have : ¬ f4 = 4 := fun e => hbr (hfb.1 e)
    simpa using this
  obtain ⟨j, hj⟩ : ∃ j, i - 1 = j := ⟨_, rfl⟩
  have Ea := fun w' h1 => E i w' h1 (by omega)
  have Eb := fun w' h1 => E j w' h1 (by omega)
  obtain ⟨res, hres⟩ : ∃ res, plI R N f i = res := ⟨_, rfl⟩
  rw [hres]
  unfold plI at hres
  rw [hj] at hres
  obtain ⟨a, ha⟩ : ∃ a, epB R N f i = a := ⟨_, rfl⟩
  obtain ⟨b, hb⟩ : ∃ b, epB R N f j = b := ⟨_, rfl⟩
  rw [ho, hr, hr1, him, ha, hb] at hres
  rw [ha] at Ea
  rw [hb] at Eb
  have hout : ¬ (11 ≤ op ∧ op ≤ 21) → op < 11 ∨ 21 < op := fun h => by omega
  by_cases hbad : (rd = 1 ∧ a = false) ∨ (rd = 2 ∧ b = false)
  · obtain rfl : res = 21 := by rw [← hres, if_pos hbad]
    by_cases hop : 11 ≤ op ∧ op ≤ 21
    · rcases hbad with ⟨rfl, rfl⟩ | ⟨rfl, rfl⟩
      · exact bad1In i j op r1 r2 im f4 fc fg fh (wdN op) b w h hi h2 hN hj f0 f1 ho hr hr1 hr2' him h4b h3b hsq hf4b Ea Eb hop rfl (by have := wd_in hop.1 hop.2; omega) (by have := wd_in hop.1 hop.2; omega)
      · exact bad2In i j op r1 r2 im f4 fc fg fh (wdN op) a w h hi h2 hN hj f0 f1 ho hr hr1 hr2' him h4b h3b hsq hf4b Ea Eb hop rfl (by have := wd_in hop.1 hop.2; omega) (by have := wd_in hop.1 hop.2; omega)
    · rcases hbad with ⟨rfl, rfl⟩ | ⟨rfl, rfl⟩
      · exact bad1Out i j op r1 r2 im f4 fc fg fh 0 b w h hi h2 hN hj f0 f1 ho hr hr1 hr2' him h4b h3b hsq hf4b Ea Eb o0 (hout hop)
      · exact bad2Out i j op r1 r2 im f4 fc fg fh 0 a w h hi h2 hN hj f0 f1 ho hr hr1 hr2' him h4b h3b hsq hf4b Ea Eb o0 (hout hop)
  rw [if_neg hbad] at hres
  have hA : (rd = 1 ∧ a = true) ∨ (rd = 2 ∧ b = true) ∨ ((rd == 1) = false ∧ (rd == 2) = false) := by
    by_cases e1 : rd = 1
    · left
      refine ⟨e1, ?_⟩
      cases a
      · exact absurd (.inl ⟨e1, rfl⟩) hbad
      · rfl
    · by_cases e2 : rd = 2
      · right; left
        refine ⟨e2, ?_⟩
        cases b
        · exact absurd (.inr ⟨e2, rfl⟩) hbad
        · rfl
      · exact .inr (.inr ⟨by simpa using e1, by simpa using e2⟩)
  by_cases hop : 11 ≤ op ∧ op ≤ 21
  · have hw := wd_in hop.1 hop.2
    obtain ⟨wn, hwn⟩ : ∃ wn, wdN op = wn := ⟨_, rfl⟩
    rw [hwn] at hw hres
    have hw0 : 0 < wn := by omega
    have hw8 : wn ≤ 8 := by omega
    by_cases hr2 : r1 = 2
    · subst hr2
      by_cases hat : a = true
      · obtain rfl : res = 0 := by rw [← hres, if_neg]; intro hh; rw [hat] at hh; cases hh.2.2.1
        subst hat
        rcases hA with ⟨rfl, _⟩ | ⟨rfl, rfl⟩ | ⟨g1, g2⟩
        · exact inT1 i j op r2 im f4 fc fg fh wn b w h hi h2 hN hj f0 f1 ho hr hr1 hr2' him h4b h3b hsq hf4b Ea Eb hop hwn hw0 hw8
        · exact inT2 i j op r2 im f4 fc fg fh wn w h hi h2 hN hj f0 f1 ho hr hr1 hr2' him h4b h3b hsq hf4b Ea Eb hop hwn hw0 hw8
        · exact inT3 i j op rd r2 im f4 fc fg fh wn b w h hi h2 hN hj f0 f1 ho hr hr1 hr2' him h4b h3b hsq hf4b Ea Eb hop hwn hw0 hw8 g1 g2
      · have haf : a = false := by
          cases a
          · rfl
          · exact absurd rfl hat
        subst haf
        rcases hA with ⟨_, hx⟩ | hA
        · cases hx
        by_cases hin : im < 0
        · obtain rfl : res = 17 := by rw [← hres, if_pos ⟨hop, rfl, rfl, by omega⟩]
          rcases hA with ⟨rfl, rfl⟩ | ⟨g1, g2⟩
          · exact inNeg2 i j op r2 im f4 fc fg fh wn w h hi h2 hN hj f0 f1 ho hr hr1 hr2' him h4b h3b hsq hf4b Ea Eb hop hwn hw0 hw8 hin
          · exact inNeg3 i j op rd r2 im f4 fc fg fh wn b w h hi h2 hN hj f0 f1 ho hr hr1 hr2' him h4b h3b hsq hf4b Ea Eb hop hwn hw0 hw8 hin g1 g2
        · by_cases hig : f - 8 - wn < im
          · obtain rfl : res = 17 := by rw [← hres, if_pos ⟨hop, rfl, rfl, by omega⟩]
            rcases hA with ⟨rfl, rfl⟩ | ⟨g1, g2⟩
            · exact inBig2 i j op r2 im f4 fc fg fh wn w h hi h2 hN hj f0 f1 ho hr hr1 hr2' him h4b h3b hsq hf4b Ea Eb hop hwn hw0 hw8 hin hig
            · exact inBig3 i j op rd r2 im f4 fc fg fh wn b w h hi h2 hN hj f0 f1 ho hr hr1 hr2' him h4b h3b hsq hf4b Ea Eb hop hwn hw0 hw8 hin hig g1 g2
          · by_cases him0 : im % wn = 0
            · obtain rfl : res = 0 := by rw [← hres, if_neg]; rintro ⟨_, _, _, hh⟩; exact hh ⟨by omega, by omega, him0⟩
              rcases hA with ⟨rfl, rfl⟩ | ⟨g1, g2⟩
              · exact inFit2 i j op r2 im f4 fc fg fh wn w h hi h2 hN hj f0 f1 ho hr hr1 hr2' him h4b h3b hsq hf4b Ea Eb hop hwn hw0 hw8 hin hig him0
              · exact inFit3 i j op rd r2 im f4 fc fg fh wn b w h hi h2 hN hj f0 f1 ho hr hr1 hr2' him h4b h3b hsq hf4b Ea Eb hop hwn hw0 hw8 hin hig him0 g1 g2
            · obtain rfl : res = 17 := by rw [← hres, if_pos ⟨hop, rfl, rfl, fun hh => him0 hh.2.2⟩]
              rcases hA with ⟨rfl, rfl⟩ | ⟨g1, g2⟩
              · exact inOdd2 i j op r2 im f4 fc fg fh wn w h hi h2 hN hj f0 f1 ho hr hr1 hr2' him h4b h3b hsq hf4b Ea Eb hop hwn hw0 hw8 hin hig him0
              · exact inOdd3 i j op rd r2 im f4 fc fg fh wn b w h hi h2 hN hj f0 f1 ho hr hr1 hr2' him h4b h3b hsq hf4b Ea Eb hop hwn hw0 hw8 hin hig him0 g1 g2
    · obtain rfl : res = 0 := by rw [← hres, if_neg]; intro hh; exact hr2 hh.2.1
      have hr2b : (r1 == 2) = false := by simpa using hr2
      rcases hA with ⟨rfl, rfl⟩ | ⟨rfl, rfl⟩ | ⟨g1, g2⟩
      · exact inN1 i j op r1 r2 im f4 fc fg fh wn b w h hi h2 hN hj f0 f1 ho hr hr1 hr2' him h4b h3b hsq hf4b Ea Eb hop hwn hw0 hw8 hr2b
      · exact inN2 i j op r1 r2 im f4 fc fg fh wn a w h hi h2 hN hj f0 f1 ho hr hr1 hr2' him h4b h3b hsq hf4b Ea Eb hop hwn hw0 hw8 hr2b
      · exact inN3 i j op rd r1 r2 im f4 fc fg fh wn a b w h hi h2 hN hj f0 f1 ho hr hr1 hr2' him h4b h3b hsq hf4b Ea Eb hop hwn hw0 hw8 hr2b g1 g2
  · obtain rfl : res = 0 := by rw [← hres, if_neg]; intro hh; exact hop hh.1
    rcases hA with ⟨rfl, rfl⟩ | ⟨rfl, rfl⟩ | ⟨g1, g2⟩
    · exact out1 i j op r1 r2 im f4 fc fg fh 0 b w h hi h2 hN hj f0 f1 ho hr hr1 hr2' him h4b h3b hsq hf4b Ea Eb o0 (hout hop)
    · exact out2 i j op r1 r2 im f4 fc fg fh 0 a w h hi h2 hN hj f0 f1 ho hr hr1 hr2' him h4b h3b hsq hf4b Ea Eb o0 (hout hop)
    · exact out3 i j op rd r1 r2 im f4 fc fg fh 0 a b w h hi h2 hN hj f0 f1 ho hr hr1 hr2' him h4b h3b hsq hf4b Ea Eb o0 (hout hop) g1 g2
end
end Go.Proofs.YtiandbhcjecphaaGreatDoor

namespace Go.Proofs.YtiandbhcjecphaaGreatDoor
open Go Go.RowKit
set_option linter.unusedVariables false

def plB (a : Int) : Bool := decide (0 ≤ a ∧ a ≤ 1048575 ∧ a % 4 = 0)
theorem placeC (a : Int) (w : World) (hw : (Lit.int .i64 a).wf = true) :
    Calls Tryz.prog 28 #[.int .i64 a] w fun e w' => e = .returned (.bool (plB a)) ∧ w' = w := by
  by_cases h0 : 0 ≤ a
  · by_cases h1 : a ≤ 1048575
    · by_cases h2 : a % 4 = 0
      · have e : plB a = true := by simp [plB, h0, h1, h2]
        rw [e]
        go_enter Tryz.func28, Tryz.ntmps28
        go_wp2
        go_ret
        exact ⟨rfl, rfl⟩
      · have e : plB a = false := by simp [plB, h0, h1, h2]
        rw [e]
        go_enter Tryz.func28, Tryz.ntmps28
        go_wp2
        go_ret
        exact ⟨congrArg (fun x => Ending.returned (.bool x)) (by simp [h2]), rfl⟩
    · have e : plB a = false := by simp [plB, h0, h1]
      rw [e]
      go_enter Tryz.func28, Tryz.ntmps28
      go_wp2
      go_ret
      exact ⟨rfl, rfl⟩
  · have e : plB a = false := by simp [plB, h0]
    rw [e]
    go_enter Tryz.func28, Tryz.ntmps28
    go_wp2
    go_ret
    exact ⟨rfl, rfl⟩

/-- The code of arguments that no function has. -/
def cfC (n k : Nat) (a f : Int) : Int := if 65536 < n ∨ 4096 < k then 2 else if plB a = false then 4 else if frB f = false then 17 else crC n 5
theorem checkFnC (s : ByteArray) (a f : Int) (pc : Option Addr) (k cc : Nat) (w : World) (hs : s.size ≤ maxLen) (hk : k ≤ 1048576) (ha : (Lit.int .i64 a).wf = true) (hf : (Lit.int .i64 f).wf = true) :
    Calls Tryz.prog 25 #[.string s, .int .i64 a, .int .i64 f, .slice pc k cc] w fun e w' => e = .returned (.int .i64 (cfC s.size k a f)) ∧ w' = w := by
  have hs' := hs
  unfold maxLen at hs'
  unfold cfC
  by_cases h0 : 65536 < s.size
  · rw [if_pos (.inl h0)]
    go_enter Tryz.func25, Tryz.ntmps25
    go_wp2
    go_ret
    exact ⟨rfl, rfl⟩
  by_cases h1 : 4096 < k
  · rw [if_pos (.inr h1)]
    go_enter Tryz.func25, Tryz.ntmps25
    go_wp2
    go_ret
    exact ⟨rfl, rfl⟩
  rw [if_neg (by omega)]
  by_cases h2 : plB a = false
  · rw [if_pos h2]
    go_enter Tryz.func25, Tryz.ntmps25
    go_wp2_with (go_at_call 28; refine (placeC a _ ha).mono ?_; rintro e w' ⟨rfl, rfl⟩; rw [h2])
    go_ret
    exact ⟨rfl, rfl⟩
  have h2' : plB a = true := by cases e : plB a <;> simp_all
  rw [if_neg h2]
  by_cases h3 : frB f = false
  · rw [if_pos h3]
    go_enter Tryz.func25, Tryz.ntmps25
    go_wp2_with (first | (go_at_call 28; refine (placeC a _ ha).mono ?_; rintro e w' ⟨rfl, rfl⟩; rw [h2']) | (go_at_call 8; refine (frImpl f _ hf).mono ?_; rintro e w' ⟨rfl, rfl⟩; rw [h3]))
    go_ret
    exact ⟨rfl, rfl⟩
  have h3' : frB f = true := by cases e : frB f <;> simp_all
  rw [if_neg h3]
  go_enter Tryz.func25, Tryz.ntmps25
  go_wp2_with (first | (go_at_call 28; refine (placeC a _ ha).mono ?_; rintro e w' ⟨rfl, rfl⟩; rw [h2']) | (go_at_call 8; refine (frImpl f _ hf).mono ?_; rintro e w' ⟨rfl, rfl⟩; rw [h3']) | (go_at_call 23; refine (checkRunC s 5 _ hs (by omega)).mono ?_; rintro e w' ⟨rfl, rfl⟩))
  go_ret
  exact ⟨rfl, rfl⟩

theorem num_bd {f im : Int} (f0 : 1 ≤ f) (f1 : f ≤ 9) (rd r1 r2 : Int) (h : rightF f rd r1 r2 im = true) : -2147483648 ≤ im ∧ im ≤ 2147483647 := by
  have hok : ∀ g, 0 ≤ g → g ≤ 9 → okB g im = true → -2147483648 ≤ im ∧ im ≤ 2147483647 := fun g g0 g1 h => by
    have := (okB_iff g im g0 g1).1 h
    unfold okI at this
    repeat' split at this
    all_goals omega
  have hz : (im == 0) = true → -2147483648 ≤ im ∧ im ≤ 2147483647 := fun h => by have := eq_of_beq h; omega
  unfold rightF at h
  split at h
  · exact hok f (by omega) f1 (Bool.and_eq_true_iff.1 h).2
  · split at h
    · exact hok f (by omega) f1 (Bool.and_eq_true_iff.1 h).2
    · split at h
      · exact hok f (by omega) f1 (Bool.and_eq_true_iff.1 h).2
      · split at h
        · exact hz (Bool.and_eq_true_iff.1 h).2
        · exact hz (Bool.and_eq_true_iff.1 h).2
theorem small_of {R : Nat → Int} {i : Nat} (h : rightB (R (i * 5)) (R (i * 5 + 1)) (R (i * 5 + 2)) (R (i * 5 + 3)) (R (i * 5 + 4)) = true) : Small5 R i := by
  unfold rightB at h
  obtain ⟨h1, h2⟩ := Bool.and_eq_true_iff.1 h
  obtain ⟨h3, h4⟩ := of_decide_eq_true h1
  obtain ⟨f0, f1⟩ := shT_form _ h3 h4
  obtain ⟨i0, i1⟩ := num_bd f0 f1 _ _ _ h2
  exact ⟨h3, h4, i0, i1⟩

/-- An answer of two numbers. -/
def TwoN (B : Nat) (x y : Int) (w : World) (e : Ending) (w' : World) : Prop := e = .returned (.tuple #[.int .i64 x, .int .i64 y]) ∧ Below B w w'

theorem lintImplNo (s : ByteArray) (a f : Int) (pc : Option Addr) (k cc : Nat) (w : World) (hs : s.size ≤ maxLen) (hk : k ≤ 1048576) (ha : (Lit.int .i64 a).wf = true) (hf : (Lit.int .i64 f).wf = true) (c : Int) (hc : cfC s.size k a f = c) (h0 : c ≠ 0) :
    Calls Tryz.prog 11 #[.string s, .int .i64 a, .int .i64 f, .slice pc k cc] w fun e w' => TwoN w.heap.size 0 c w e w' := by
  have hb : (c == 0) = false := by simpa using h0
  go_enter Tryz.func11, Tryz.ntmps11
  go_wp2_with (go_at_call 25; refine (checkFnC s a f pc k cc _ hs hk ha hf).mono ?_; rintro e w' ⟨rfl, rfl⟩; rw [hc])
  go_ret2
  exact ⟨rfl, Below.refl _ _⟩
theorem lintImplWrong (s : ByteArray) (a f : Int) (pc : Option Addr) (k cc : Nat) (N j : Nat) (R : Nat → Int) (w : World) (hL : Laid w) (hs : s.size ≤ maxLen) (hk : k ≤ 1048576) (ha : (Lit.int .i64 a).wf = true) (hf : (Lit.int .i64 f).wf = true) (hc : cfC s.size k a f = 0) (hr : Run s N R j) (hj : j < N) :
    Calls Tryz.prog 11 #[.string s, .int .i64 a, .int .i64 f, .slice pc k cc] w fun e w' => TwoN w.heap.size j 10 w e w' := by
  go_enter Tryz.func11, Tryz.ntmps11
  go_wp2_with (go_at_call 25; refine (checkFnC s a f pc k cc _ hs hk ha hf).mono ?_; rintro e w' ⟨rfl, rfl⟩; rw [hc])
  refine (hr.impl _ hL).mono ?_
  rintro e2 w2 ⟨⟨p, n, c, x, y, rfl, ⟨hj', rfl, rfl, rfl⟩ | ⟨hj', rfl, rfl, rfl⟩, ho⟩, hb⟩
  · exact absurd hj (by omega)
  · go_wp2
    go_ret2
    exact ⟨rfl, hb⟩
set_option maxRecDepth 100000 in
set_option maxHeartbeats 4000000 in
theorem lintImplYes (s : ByteArray) (a f : Int) (pc : Option Addr) (cc : Nat) (zs : List Int) (N : Nat) (R : Nat → Int) (w : World) (hL : Laid w) (hs : s.size ≤ maxLen) (hk : zs.length ≤ 1048576) (hz : IntsAt w pc zs) (ha : (Lit.int .i64 a).wf = true) (hf : (Lit.int .i64 f).wf = true) (hc : cfC s.size zs.length a f = 0)
    (hr : Run s N R N) (h5 : 5 ≤ N) (h64 : N ≤ 64) (a0 : 0 ≤ a) (a1 : a ≤ 1048575) (hfr : frB f = true) (x y : Int) (hl : LintIs R N f a zs x y) :
    Calls Tryz.prog 11 #[.string s, .int .i64 a, .int .i64 f, .slice pc zs.length cc] w fun e w' => TwoN w.heap.size x y w e w' := by
  obtain ⟨f0, f1, _⟩ := frB_bd hfr
  have hsm : ∀ i, i < N → Small5 R i := fun i hi => small_of (hr.right i hi)
  obtain ⟨K, hK⟩ : ∃ K, zs.length = K := ⟨_, rfl⟩
  rw [hK] at hk hc ⊢
  go_enter Tryz.func11, Tryz.ntmps11
  go_wp2_with (go_at_call 25; refine (checkFnC s a f pc K cc _ hs hk ha hf).mono ?_; rintro e w' ⟨rfl, rfl⟩; rw [hc])
  refine (hr.impl _ hL).mono ?_
  rintro e2 w2 ⟨⟨p, n, c, x', y', rfl, ⟨hj', rfl, rfl, rfl⟩ | ⟨hj', rfl, rfl, rfl⟩, ho⟩, hb⟩
  · rcases ho with ho | ⟨g, rfl, hg0, hg1, hfl⟩
    · omega
    go_wp2_with fail
    refine (partsC g _ c f R _ hg1 h64 h5 hfr hfl.rd).mono ?_
    rintro e3 w3 ⟨q, rfl, hb3, hq0, hq1, hP⟩
    have B3 : Below w'.heap.size w' w3 := hb.trans (hb3.mono hb.size)
    have hfn : FnIs (w3.alloc (.cells #[.slice (some ⟨g, 0, none⟩) n c, .slice (some ⟨q, 0, none⟩) n n, .int .i64 a, .int .i64 f, .slice pc zs.length cc] 56)) w3.heap.size g q n c n pc cc a f R (partI R n f) zs := by
      have b4 : Below w3.heap.size w3 (w3.alloc (.cells #[.slice (some ⟨g, 0, none⟩) n c, .slice (some ⟨q, 0, none⟩) n n, .int .i64 a, .int .i64 f, .slice pc zs.length cc] 56)) := (Below.refl _ _).alloc (Nat.le_refl _) _
      refine ⟨by simp, by simp, by simp, by simp, by simp, ?_, ?_, ?_, by simp, ?_, ?_⟩
      · exact (hfl.rd.below hb3 hg1).below b4 (Nat.lt_of_lt_of_le hg1 hb3.size)
      · exact hP.below b4 hq1
      · exact (hz.below B3).below b4
      · exact Nat.lt_of_lt_of_le (Nat.lt_of_lt_of_le hg1 hb3.size) b4.size
      · exact Nat.lt_of_lt_of_le hq1 b4.size
    rw [hK] at hfn
    clear hb hb3 hg0 hg1 hfl hP hq0 hq1
    have B4 : Hid (Below w'.heap.size w' (w3.alloc (.cells #[.slice (some ⟨g, 0, none⟩) n c, .slice (some ⟨q, 0, none⟩) n n, .int .i64 a, .int .i64 f, .slice pc K cc] 56))) := B3.alloc B3.size _
    clear B3
    go_wp2_with fail
    refine (firstC _ hfn h64 h5 hfr f0 f1 (fun i _ => rfl) (by omega) a0 a1 hsm x y hl).mono ?_
    rintro e5 w5 ⟨rfl, hb5⟩
    have B5 := B4.out.trans (hb5.mono B4.out.size)
    clear hfn B4 hb5
    go_wp2_with fail
    go_ret2
    exact ⟨rfl, B5⟩
  · omega
end Go.Proofs.YtiandbhcjecphaaGreatDoor

namespace Go.Proofs.YtiandbhcjecphaaGreatDoor
open Go Go.RowKit
set_option linter.unusedVariables false

theorem plB_in (a : Int) : (decide (0 ≤ a ∧ a ≤ 1048575) = true ∧ 0 ≤ a ∧ a ≤ 1048575) ∨ (decide (0 ≤ a ∧ a ≤ 1048575) = false ∧ (a < 0 ∨ 1048575 < a)) := by
  by_cases h : 0 ≤ a ∧ a ≤ 1048575
  · exact .inl ⟨by rw [decide_eq_true_eq]; exact h, h⟩
  · exact .inr ⟨by rw [decide_eq_false_iff_not]; exact h, by omega⟩

section
variable {pc : Option Addr} {cc : Nat}
theorem specLong (s : ByteArray) (a f : Int) (k : Nat) (w : World) (hs : s.size ≤ maxLen) (hk : k ≤ 1048576) (h : 65536 < s.size ∨ 4096 < k) :
    Calls Tryz.prog 16 #[.string s, .int .i64 a, .int .i64 f, .slice pc k cc] w fun e w' => TwoN w.heap.size 0 2 w e w' := by
  unfold maxLen at hs
  by_cases h0 : 65536 < s.size
  · go_enter Tryz.func16, Tryz.ntmps16
    go_wp2
    go_ret2
    exact ⟨rfl, Below.refl _ _⟩
  · have h1 : 4096 < k := by omega
    go_enter Tryz.func16, Tryz.ntmps16
    go_wp2
    go_ret2
    exact ⟨rfl, Below.refl _ _⟩

/-- What the model's check answers ahead of the words. -/
theorem specPlace (s : ByteArray) (a f : Int) (k : Nat) (w : World) (hs : s.size ≤ 65536) (ha : (Lit.int .i64 a).wf = true) (h : plB a = false) :
    Calls Tryz.prog 38 #[.string s, .int .i64 a, .int .i64 f, .slice pc k cc] w fun e w' => TwoN w.heap.size 0 4 w e w' := by
  by_cases h0 : 0 ≤ a ∧ a ≤ 1048575
  · have h1 : ¬ a.tmod 4 = 0 := by
      rw [Int.tmod_eq_emod_of_nonneg h0.1]
      intro e
      simp [plB, h0.1, h0.2, e] at h
    have h2 : ¬ a % 4 = 0 := by
      intro e
      simp [plB, h0.1, h0.2, e] at h
    go_enter Tryz.func38, Tryz.ntmps38
    go_wp2_with (go_at_call 58; refine (spIn _ _ _ _ true (.inl ⟨rfl, h0.1, h0.2⟩)).mono ?_; rintro e w' ⟨rfl, rfl⟩)
    go_ret2
    exact ⟨rfl, Below.refl _ _⟩
  · go_enter Tryz.func38, Tryz.ntmps38
    go_wp2_with (go_at_call 58; refine (spIn _ _ _ _ false (.inr ⟨rfl, by omega⟩)).mono ?_; rintro e w' ⟨rfl, rfl⟩)
    go_ret2
    exact ⟨rfl, Below.refl _ _⟩
theorem plB_yes {a : Int} (h : plB a = true) : 0 ≤ a ∧ a ≤ 1048575 ∧ a % 4 = 0 := by simpa [plB] using h
theorem specFrame (s : ByteArray) (a f : Int) (k : Nat) (w : World) (hs : s.size ≤ 65536) (hf : (Lit.int .i64 f).wf = true) (ha : plB a = true) (h : frB f = false) :
    Calls Tryz.prog 38 #[.string s, .int .i64 a, .int .i64 f, .slice pc k cc] w fun e w' => TwoN w.heap.size 0 17 w e w' := by
  obtain ⟨a0, a1, a2⟩ := plB_yes ha
  go_enter Tryz.func38, Tryz.ntmps38
  go_wp2_with (first | (go_at_call 58; refine (spIn _ _ _ _ true (.inl ⟨rfl, a0, a1⟩)).mono ?_; rintro e w' ⟨rfl, rfl⟩) | (go_at_call 59; refine (frSpec f _ hf).mono ?_; rintro e w' ⟨rfl, rfl⟩; rw [h]))
  go_ret2
  exact ⟨rfl, Below.refl _ _⟩
theorem specSize (s : ByteArray) (a f : Int) (k : Nat) (w : World) (hs : s.size ≤ 65536) (hf : (Lit.int .i64 f).wf = true) (ha : plB a = true) (hfr : frB f = true) (h : ¬ (s.size % 4 = 0 ∧ s.size ≤ 256 ∧ 20 ≤ s.size)) :
    Calls Tryz.prog 38 #[.string s, .int .i64 a, .int .i64 f, .slice pc k cc] w fun e w' => TwoN w.heap.size 0 8 w e w' := by
  obtain ⟨a0, a1, a2⟩ := plB_yes ha
  have hs' : s.size ≤ maxLen := by unfold maxLen; omega
  by_cases h0 : s.size % 4 = 0 ∧ s.size ≤ 256
  · have e : decide (s.size % 4 = 0 ∧ s.size ≤ 256) = true := by rw [decide_eq_true_eq]; exact h0
    have h1 : s.size < 20 := by omega
    go_enter Tryz.func38, Tryz.ntmps38
    go_wp2_with (first | (go_at_call 58; refine (spIn _ _ _ _ true (.inl ⟨rfl, a0, a1⟩)).mono ?_; rintro e w' ⟨rfl, rfl⟩) | (go_at_call 59; refine (frSpec f _ hf).mono ?_; rintro e w' ⟨rfl, rfl⟩; rw [hfr]) | (go_at_call 34; refine (szRun s _ hs').mono ?_; rintro e' w' ⟨rfl, rfl⟩; rw [e]))
    go_ret2
    exact ⟨rfl, Below.refl _ _⟩
  · have e : decide (s.size % 4 = 0 ∧ s.size ≤ 256) = false := by rw [decide_eq_false_iff_not]; exact h0
    go_enter Tryz.func38, Tryz.ntmps38
    go_wp2_with (first | (go_at_call 58; refine (spIn _ _ _ _ true (.inl ⟨rfl, a0, a1⟩)).mono ?_; rintro e w' ⟨rfl, rfl⟩) | (go_at_call 59; refine (frSpec f _ hf).mono ?_; rintro e w' ⟨rfl, rfl⟩; rw [hfr]) | (go_at_call 34; refine (szRun s _ hs').mono ?_; rintro e' w' ⟨rfl, rfl⟩; rw [e]))
    go_ret2
    exact ⟨rfl, Below.refl _ _⟩
theorem specWrong (s : ByteArray) (a f : Int) (k : Nat) (N j : Nat) (R : Nat → Int) (w : World) (hf : (Lit.int .i64 f).wf = true) (ha : plB a = true) (hfr : frB f = true) (h0 : s.size % 4 = 0 ∧ s.size ≤ 256) (h1 : 20 ≤ s.size) (hr : Run s N R j) (hj : j < N) :
    Calls Tryz.prog 38 #[.string s, .int .i64 a, .int .i64 f, .slice pc k cc] w fun e w' => TwoN w.heap.size j 10 w e w' := by
  obtain ⟨a0, a1, a2⟩ := plB_yes ha
  have hs' : s.size ≤ maxLen := by unfold maxLen; omega
  have e : decide (s.size % 4 = 0 ∧ s.size ≤ 256) = true := by rw [decide_eq_true_eq]; exact h0
  go_enter Tryz.func38, Tryz.ntmps38
  go_wp2_with (first | (go_at_call 58; refine (spIn _ _ _ _ true (.inl ⟨rfl, a0, a1⟩)).mono ?_; rintro e w' ⟨rfl, rfl⟩) | (go_at_call 59; refine (frSpec f _ hf).mono ?_; rintro e w' ⟨rfl, rfl⟩; rw [hfr]) | (go_at_call 34; refine (szRun s _ hs').mono ?_; rintro e' w' ⟨rfl, rfl⟩; rw [e]))
  refine (hr.model _).mono ?_
  rintro e2 w2 ⟨⟨p, n, c, x, rfl, ⟨hj', rfl, rfl⟩ | ⟨hj', rfl, rfl⟩, ho⟩, hb⟩
  · exact absurd hj (by omega)
  · have hj0 : (0 : Int) ≤ j := by omega
    go_wp2
    go_ret2
    exact ⟨rfl, hb⟩
end
end Go.Proofs.YtiandbhcjecphaaGreatDoor

namespace Go.Proofs.YtiandbhcjecphaaGreatDoor
open Go Go.RowKit
set_option linter.unusedVariables false

section
variable {pc : Option Addr} {cc : Nat} {zs : List Int}
set_option maxRecDepth 100000 in
set_option maxHeartbeats 8000000 in
theorem specYes (s : ByteArray) (a f : Int) (N : Nat) (R : Nat → Int) (w : World) (hf : (Lit.int .i64 f).wf = true) (ha : plB a = true) (hfr : frB f = true) (h0 : s.size % 4 = 0 ∧ s.size ≤ 256) (h20 : 20 ≤ s.size) (hr : Run s N R N) (h5 : 5 ≤ N) (h64 : N ≤ 64)
    (hk : zs.length ≤ 1048576) (hz : IntsAt w pc zs) (x y : Int) (hl : LintIs R N f a zs x y) :
    Calls Tryz.prog 38 #[.string s, .int .i64 a, .int .i64 f, .slice pc zs.length cc] w fun e w' => TwoN w.heap.size x y w e w' := by
  obtain ⟨a0, a1, a2⟩ := plB_yes ha
  have hs' : s.size ≤ maxLen := by unfold maxLen; omega
  have e : decide (s.size % 4 = 0 ∧ s.size ≤ 256) = true := by rw [decide_eq_true_eq]; exact h0
  have hsm : ∀ i, i < N → Small5 R i := fun i hi => small_of (hr.right i hi)
  obtain ⟨K, hK⟩ : ∃ K, zs.length = K := ⟨_, rfl⟩
  rw [hK]
  go_enter Tryz.func38, Tryz.ntmps38
  go_wp2_with (first | (go_at_call 58; refine (spIn _ _ _ _ true (.inl ⟨rfl, a0, a1⟩)).mono ?_; rintro e w' ⟨rfl, rfl⟩) | (go_at_call 59; refine (frSpec f _ hf).mono ?_; rintro e w' ⟨rfl, rfl⟩; rw [hfr]) | (go_at_call 34; refine (szRun s _ hs').mono ?_; rintro e' w' ⟨rfl, rfl⟩; rw [e]))
  refine (hr.model _).mono ?_
  rintro e2 w2 ⟨⟨p, n, c, x', rfl, ⟨hj', rfl, rfl⟩ | ⟨hj', rfl, rfl⟩, ho⟩, hb⟩
  rotate_left
  · omega
  rcases ho with ho | ⟨g, rfl, hg0, hg1, hfl⟩
  · omega
  have hm : MdIs w2 g n R pc zs := ⟨hfl.rd, hg1, hz.below hb⟩
  have HB : Hid (Below w'.heap.size w' w2) := hb
  have ru := fun i w' (h : MdIs w' g n R pc zs) (hi : i < n) (h2 : 2 ≤ i) => specRule (g := g) (N := n) (c := c) (pc := pc) (cc := cc) (at' := a) (f := f) (R := R) (zs := zs) i w' h hi h2 h64 hfr a0 a1 hk (hsm i hi)
  rw [hK] at ru
  clear hfl hg0 hb hr hsm e
  go_wp2_with fail
  go_loopw [12] (fun i wr => ∃ m : Nat, m ≤ 2 ∧ i = .int .i64 m ∧ (∀ j, j < m → Eq5 R (proR f) j) ∧ Below w2.heap.size w2 wr) (fun i _ => 2 - (intOf i).toNat)
  case atStart => exact ⟨0, Nat.zero_le _, rfl, fun j h => by omega, Below.refl _ _⟩
  case round =>
    obtain ⟨m, hm2, rfl, hok, hB⟩ := hrel
    have h1 := hm.below hB
    by_cases hlt : m < 2
    · obtain ⟨x0, x1, x2, x3, x4⟩ := h1.l.five (k := m) (by omega)
      simp only [Nat.zero_add] at x0 x1 x2 x3 x4
      have lg1 := h1.lg
      obtain ⟨b0, e0⟩ : ∃ b, proR f (m * 5) = b := ⟨_, rfl⟩
      obtain ⟨b1, e1⟩ : ∃ b, proR f (m * 5 + 1) = b := ⟨_, rfl⟩
      obtain ⟨b2, e2⟩ : ∃ b, proR f (m * 5 + 2) = b := ⟨_, rfl⟩
      obtain ⟨b3, e3⟩ : ∃ b, proR f (m * 5 + 3) = b := ⟨_, rfl⟩
      obtain ⟨b4, e4⟩ : ∃ b, proR f (m * 5 + 4) = b := ⟨_, rfl⟩
      have hgu := guardIns
      have hsm : sm5 (R (m * 5)) (R (m * 5 + 1)) (R (m * 5 + 2)) (R (m * 5 + 3)) (R (m * 5 + 4)) b0 b1 b2 b3 b4 = true ↔ Eq5 R (proR f) m := by
        rw [sm5_iff, ← e0, ← e1, ← e2, ← e3, ← e4]
        unfold Eq5
        constructor
        · rintro ⟨a0, a1, a2, a3, a4⟩ j hj
          match j, hj with
          | 0, _ => exact a0
          | 1, _ => exact a1
          | 2, _ => exact a2
          | 3, _ => exact a3
          | 4, _ => exact a4
        · intro a
          exact ⟨a 0 (by omega), a 1 (by omega), a 2 (by omega), a 3 (by omega), a 4 (by omega)⟩
      have heq := fun w => eqlIns (R (m * 5)) (R (m * 5 + 1)) (R (m * 5 + 2)) (R (m * 5 + 3)) (R (m * 5 + 4)) b0 b1 b2 b3 b4 w
      have hmN : m < n := by omega
      have pro : ∀ w, Hid (Calls Tryz.prog 39 #[.int .i64 f] w fun e w' => ∃ G, e = .returned (.slice (some ⟨G, 0, none⟩) 2 2) ∧ Below w.heap.size w w' ∧ w'.cell? ⟨G, m * 5, none⟩ = some (.int .i64 b0) ∧ w'.cell? ⟨G, m * 5 + 1, none⟩ = some (.int .i64 b1) ∧ w'.cell? ⟨G, m * 5 + 2, none⟩ = some (.int .i64 b2) ∧ w'.cell? ⟨G, m * 5 + 3, none⟩ = some (.int .i64 b3) ∧ w'.cell? ⟨G, m * 5 + 4, none⟩ = some (.int .i64 b4)) := by
        intro w
        refine (proSpec0 f w hfr).mono ?_
        rintro e w1 ⟨G, rfl, hb, hG0, hG1, hfl⟩
        obtain ⟨y0, y1, y2, y3, y4⟩ := hfl.rd.five (k := m) hlt
        simp only [Nat.zero_add] at y0 y1 y2 y3 y4
        rw [e0] at y0
        rw [e1] at y1
        rw [e2] at y2
        rw [e3] at y3
        rw [e4] at y4
        exact ⟨G, rfl, hb, y0, y1, y2, y3, y4⟩
      clear e0 e1 e2 e3 e4
      by_cases hE : Eq5 R (proR f) m
      · rw [hsm.2 hE] at heq
        clear hsm h1
        go_wp2_with fail
        go_region_with ((go_at_call 39; refine ((pro _).out).mono ?_; rintro e w3 ⟨G, rfl, hb3, y0, y1, y2, y3, y4⟩; have B3 : Below wr.heap.size wr w3 := (by first | exact hb3 | exact (Below.refl wr.heap.size wr).drew.trans hb3); have z0 := (B3.cell (p := ⟨g, m * 5, none⟩) lg1).trans x0; have z1 := (B3.cell (p := ⟨g, m * 5 + 1, none⟩) lg1).trans x1; have z2 := (B3.cell (p := ⟨g, m * 5 + 2, none⟩) lg1).trans x2; have z3 := (B3.cell (p := ⟨g, m * 5 + 3, none⟩) lg1).trans x3; have z4 := (B3.cell (p := ⟨g, m * 5 + 4, none⟩) lg1).trans x4))
        all_goals
          go_wp2_with fail
          go_round
          case rel => exact ⟨m + 1, by omega, by go_num, fun j hj => by
            rcases Nat.lt_succ_iff_lt_or_eq.1 hj with h | rfl
            · exact hok j h
            · exact hE, by first | exact hB.trans (B3.mono hB.size) | exact hB.trans ((B3.drew).mono hB.size)⟩
          case measure => simp [intOf]; omega
      · have hs : sm5 (R (m * 5)) (R (m * 5 + 1)) (R (m * 5 + 2)) (R (m * 5 + 3)) (R (m * 5 + 4)) b0 b1 b2 b3 b4 = false := by
          cases e : sm5 (R (m * 5)) (R (m * 5 + 1)) (R (m * 5 + 2)) (R (m * 5 + 3)) (R (m * 5 + 4)) b0 b1 b2 b3 b4
          · rfl
          · exact absurd (hsm.1 e) hE
        obtain ⟨rfl, rfl⟩ : x = ((m : Nat) : Int) ∧ y = 17 := by
          cases hl with
          | head k hk a b =>
            by_cases h1 : k < m
            · exact absurd (hok k h1) b
            · by_cases h2 : m < k
              · exact absurd (a m h2) hE
              · obtain rfl : k = m := by omega
                exact ⟨rfl, rfl⟩
          | last a b => exact absurd (a m hlt) hE
          | rule k a b => exact absurd (a m hlt) hE
          | none a b => exact absurd (a m hlt) hE
        rw [hs] at heq
        clear hsm hs h1 hl
        go_wp2_with fail
        go_region_with ((go_at_call 39; refine ((pro _).out).mono ?_; rintro e w3 ⟨G, rfl, hb3, y0, y1, y2, y3, y4⟩; have B3 : Below wr.heap.size wr w3 := (by first | exact hb3 | exact (Below.refl wr.heap.size wr).drew.trans hb3); have z0 := (B3.cell (p := ⟨g, m * 5, none⟩) lg1).trans x0; have z1 := (B3.cell (p := ⟨g, m * 5 + 1, none⟩) lg1).trans x1; have z2 := (B3.cell (p := ⟨g, m * 5 + 2, none⟩) lg1).trans x2; have z3 := (B3.cell (p := ⟨g, m * 5 + 3, none⟩) lg1).trans x3; have z4 := (B3.cell (p := ⟨g, m * 5 + 4, none⟩) lg1).trans x4))
        all_goals
          go_wp2_with fail
          go_ret2
          exact ⟨rfl, HB.out.trans ((hB.trans (by first | exact B3.mono hB.size | exact (B3.drew).mono hB.size)).mono HB.out.size)⟩
    · obtain rfl : m = 2 := by omega
      obtain ⟨x0, x1, x2, x3, x4⟩ := h1.l.five (k := n - 1) (by omega)
      obtain ⟨l, hl1⟩ : ∃ l, n - 1 = l := ⟨_, rfl⟩
      have hNl : n = l + 1 := by omega
      rw [hl1] at x0 x1 x2 x3 x4
      simp only [Nat.zero_add] at x0 x1 x2 x3 x4
      subst hNl
      clear hl1
      have HW : Hid (Below w'.heap.size w' wr) := HB.out.trans (hB.mono HB.out.size)
      have hlast : EndOK R (l + 1) ↔ R (l * 5) = 4 ∨ (R (l * 5) = 3 ∧ R (l * 5 + 1) = 0) := Iff.rfl
      obtain ⟨op, ho⟩ : ∃ op, R (l * 5) = op := ⟨_, rfl⟩
      obtain ⟨rd, hrd⟩ : ∃ rd, R (l * 5 + 1) = rd := ⟨_, rfl⟩
      rw [ho] at x0 hlast
      rw [hrd] at x1 hlast
      have tail : EndOK R (l + 1) → ∀ (tmps : Array Value) , True := fun _ _ => trivial
      clear tail
      by_cases he : EndOK R (l + 1)
      · have hz' : ∀ m, m < l + 1 → 2 ≤ m → (∀ j, 2 ≤ j → j < m → ruI R (l + 1) f a zs wdN j = 0) → ruI R (l + 1) f a zs wdN m ≠ 0 → x = ((m : Nat) : Int) ∧ y = ruI R (l + 1) f a zs wdN m := by
          intro m hm1 hm2 hru hne
          cases hl with
          | head k hk a b => exact absurd (hok k hk) b
          | last a b => exact absurd he b
          | rule k a b h2 hk hb hn =>
            by_cases hkm : k < m
            · exact absurd (hru k h2 hkm) hn
            · by_cases hmk : m < k
              · exact absurd (hb m hm2 hmk) hne
              · obtain rfl : k = m := by omega
                exact ⟨rfl, rfl⟩
          | none a b hb => exact absurd (hb m hm2 hm1) hne
        have hzz : (∀ j, 2 ≤ j → j < l + 1 → ruI R (l + 1) f a zs wdN j = 0) → x = 0 ∧ y = 0 := by
          intro hru
          cases hl with
          | head k hk a b => exact absurd (hok k hk) b
          | last a b => exact absurd he b
          | rule k a b h2 hk hb hn => exact absurd (hru k h2 hk) hn
          | none a b => exact ⟨rfl, rfl⟩
        have hm3 : MdIs wr g (l + 1) R pc zs := h1
        clear hl h1
        obtain ⟨W1, rfl⟩ : ∃ W1, W1 = wr := ⟨_, rfl⟩
        rcases hlast.1 he with rfl | ⟨rfl, rfl⟩
        all_goals
          clear hlast he
          go_wp2_with fail
          go_loopw [14] (fun i w3 => ∃ m : Nat, 2 ≤ m ∧ m ≤ l + 1 ∧ i = .int .i64 m ∧ (∀ j, 2 ≤ j → j < m → ruI R (l + 1) f a zs wdN j = 0) ∧ Below W1.heap.size W1 w3) (fun i _ => (l + 1) - (intOf i).toNat)
          case atStart => exact ⟨2, by omega, by omega, rfl, fun j h1 h2 => by omega, Below.refl _ _⟩
          case round =>
            obtain ⟨m, hm2, hml, rfl, hru, hB3⟩ := hrel
            by_cases hlt2 : m < l + 1
            · obtain ⟨r, hr⟩ : ∃ r, ruI R (l + 1) f a zs wdN m = r := ⟨_, rfl⟩
              have hbm := ru m _ (hm3.below hB3) hlt2 hm2
              rw [hr] at hbm
              have hz2 := hz' m hlt2 hm2 hru
              rw [hr] at hz2
              clear x0 x1 x2 x3 x4
              by_cases hr0 : r = 0
              · subst hr0
                go_wp2_with fail
                refine hbm.mono ?_
                rintro e w4 ⟨rfl, hb4⟩
                have HB4 : Below W1.heap.size W1 w4 := hB3.trans (hb4.mono hB3.size)
                clear hb4 hB3 hbm
                go_wp2_with fail
                go_roundw
                case rel =>
                  refine ⟨_, _, _, _, _, _, _, _, _, _, _, _, _, _, _, _, _, _, _, ⟨m + 1, by omega, by omega, by go_num, ?_, HB4⟩, rfl⟩
                  intro j h1 h2
                  rcases Nat.lt_succ_iff_lt_or_eq.1 h2 with h' | h'
                  · exact hru j h1 h'
                  · rw [h']; exact hr
                case measure => simp [intOf]; omega
              · obtain ⟨rfl, rfl⟩ := hz2 hr0
                have hr0b : (y == 0) = false := by simpa using hr0
                go_wp2_with fail
                refine hbm.mono ?_
                rintro e w4 ⟨rfl, hb4⟩
                have HB4 : Below W1.heap.size W1 w4 := hB3.trans (hb4.mono hB3.size)
                clear hb4 hB3 hbm
                go_wp2_with fail
                go_ret2
                exact ⟨rfl, HW.out.trans (HB4.mono HW.out.size)⟩
            · obtain rfl : m = l + 1 := by omega
              obtain ⟨rfl, rfl⟩ := hzz hru
              clear x0 x1 x2 x3 x4
              go_wp2_with fail
              go_ret2
              exact ⟨rfl, HW.out.trans (hB3.mono HW.out.size)⟩
      · obtain ⟨rfl, rfl⟩ : x = ((l : Nat) : Int) ∧ y = 22 := by
          cases hl with
          | head k hk a b => exact absurd (hok k hk) b
          | last a b => exact ⟨rfl, rfl⟩
          | rule k a b => exact absurd b he
          | none a b => exact absurd b he
        have hn : ¬ (op = 4 ∨ (op = 3 ∧ rd = 0)) := fun h => he (hlast.2 h)
        have h4 : (op == 4) = false := by simp; omega
        clear hlast he h1
        by_cases h3 : op = 3
        · have hr0 : (rd == 0) = false := by simp; omega
          subst h3
          go_wp2_with fail
          go_ret2
          exact ⟨rfl, HW.out⟩
        · have h3b : (op == 3) = false := by simpa using h3
          go_wp2_with fail
          go_ret2
          exact ⟨rfl, HW.out⟩
end

set_option maxHeartbeats 2000000 in
/-- The model's LintFunction out of its check. -/
theorem specOuter (s : ByteArray) (a f x y : Int) (pc : Option Addr) (k cc : Nat) (w : World) (hs : s.size ≤ 65536) (hk : k ≤ 4096) (h : Calls Tryz.prog 38 #[.string s, .int .i64 a, .int .i64 f, .slice pc k cc] w fun e w' => TwoN w.heap.size x y w e w') :
    Calls Tryz.prog 16 #[.string s, .int .i64 a, .int .i64 f, .slice pc k cc] w fun e w' => TwoN w.heap.size x y w e w' := by
  go_enter Tryz.func16, Tryz.ntmps16
  go_wp2_with (go_at_call 38; refine h.mono ?_; rintro e w' ⟨rfl, hb⟩)
  go_ret2
  exact ⟨rfl, hb⟩

/-- Both answer the same. -/
theorem lintBoth (s : ByteArray) (a f : Int) (zs : List Int) (hs : s.size ≤ maxLen) (hk : zs.length ≤ 1048576) (ha : (Lit.int .i64 a).wf = true) (hf : (Lit.int .i64 f).wf = true) : ∃ x y : Int,
    (∀ pc cc w, IntsAt w pc zs → Calls Tryz.prog 16 #[.string s, .int .i64 a, .int .i64 f, .slice pc zs.length cc] w fun e w' => TwoN w.heap.size x y w e w') ∧
    (∀ pc cc w, Laid w → IntsAt w pc zs → Calls Tryz.prog 11 #[.string s, .int .i64 a, .int .i64 f, .slice pc zs.length cc] w fun e w' => TwoN w.heap.size x y w e w') := by
  have no : ∀ c, cfC s.size zs.length a f = c → c ≠ 0 → ∀ pc cc w, Laid w → IntsAt w pc zs → Calls Tryz.prog 11 #[.string s, .int .i64 a, .int .i64 f, .slice pc zs.length cc] w fun e w' => TwoN w.heap.size 0 c w e w' :=
    fun c hc h0 pc cc w _ _ => lintImplNo s a f pc zs.length cc w hs hk ha hf c hc h0
  by_cases h0 : 65536 < s.size ∨ 4096 < zs.length
  · exact ⟨0, 2, fun pc cc w _ => specLong s a f _ w hs hk h0, no 2 (by unfold cfC; rw [if_pos h0]) (by decide)⟩
  have hs1 : s.size ≤ 65536 := by omega
  have hk1 : zs.length ≤ 4096 := by omega
  by_cases h1 : plB a = false
  · exact ⟨0, 4, fun pc cc w _ => specOuter s a f 0 4 pc _ cc w hs1 hk1 (specPlace s a f _ w hs1 ha h1), no 4 (by unfold cfC; rw [if_neg h0, if_pos h1]) (by decide)⟩
  have h1' : plB a = true := by cases e : plB a <;> simp_all
  by_cases h2 : frB f = false
  · exact ⟨0, 17, fun pc cc w _ => specOuter s a f 0 17 pc _ cc w hs1 hk1 (specFrame s a f _ w hs1 hf h1' h2), no 17 (by unfold cfC; rw [if_neg h0, if_neg h1, if_pos h2]) (by decide)⟩
  have h2' : frB f = true := by cases e : frB f <;> simp_all
  by_cases h3 : s.size % 4 = 0 ∧ s.size ≤ 256 ∧ 20 ≤ s.size
  · have hc : cfC s.size zs.length a f = 0 := by
      unfold cfC crC
      rw [if_neg h0, if_neg h1, if_neg h2, if_neg (by omega), if_pos (by omega)]
    obtain ⟨R, j, hr⟩ := run_of s (s.size / 4) (by omega) (by omega)
    by_cases e : j = s.size / 4
    · subst e
      obtain ⟨x, y, hl⟩ := lint_ex R (s.size / 4) f a zs
      obtain ⟨a0, a1, _⟩ := plB_yes h1'
      exact ⟨x, y, fun pc cc w hz => specOuter s a f x y pc _ cc w hs1 hk1 (specYes s a f _ R w hf h1' h2' ⟨h3.1, h3.2.1⟩ h3.2.2 hr (by omega) (by omega) hk hz x y hl),
        fun pc cc w hL hz => lintImplYes s a f pc cc zs _ R w hL hs hk hz ha hf hc hr (by omega) (by omega) a0 a1 h2' x y hl⟩
    · have hj : j < s.size / 4 := by have := hr.le; omega
      exact ⟨j, 10, fun pc cc w hz => specOuter s a f j 10 pc _ cc w hs1 hk1 (specWrong s a f _ _ j R w hf h1' h2' ⟨h3.1, h3.2.1⟩ h3.2.2 hr hj),
        fun pc cc w hL hz => lintImplWrong s a f pc _ cc _ j R w hL hs hk ha hf hc hr hj⟩
  · refine ⟨0, 8, fun pc cc w _ => specOuter s a f 0 8 pc _ cc w hs1 hk1 (specSize s a f _ w hs1 hf h1' h2' h3), no 8 ?_ (by decide)⟩
    unfold cfC crC
    rw [if_neg h0, if_neg h1, if_neg h2, if_neg (by omega), if_neg (by omega)]
end Go.Proofs.YtiandbhcjecphaaGreatDoor

namespace Go.Proofs.YtiandbhcjecphaaGreatDoor
open Go Go.RowKit Go.Sort
set_option linter.unusedVariables false

theorem callsImplLong (s : ByteArray) (a : Int) (w : World) (hs : s.size ≤ maxLen) (h : 65536 < s.size) :
    Calls Tryz.prog 12 #[.string s, .int .i64 a] w fun e w' => RowAns w.heap.size [] 2 w e w' := by
  unfold maxLen at hs
  go_enter Tryz.func12, Tryz.ntmps12
  go_wp2
  go_ret2
  exact ⟨⟨_, _, rfl, .inl rfl⟩, Below.refl _ _⟩
theorem callsImplPlace (s : ByteArray) (a : Int) (w : World) (hs : s.size ≤ 65536) (ha : (Lit.int .i64 a).wf = true) (h : plB a = false) :
    Calls Tryz.prog 12 #[.string s, .int .i64 a] w fun e w' => RowAns w.heap.size [] 4 w e w' := by
  go_enter Tryz.func12, Tryz.ntmps12
  go_wp2_with (go_at_call 28; refine (placeC a _ ha).mono ?_; rintro e w' ⟨rfl, rfl⟩; rw [h])
  go_ret2
  exact ⟨⟨_, _, rfl, .inl rfl⟩, Below.refl _ _⟩
theorem callsImplNo (s : ByteArray) (a : Int) (n : Nat) (x y : Int) (R : Nat → Int) (w : World) (hs : s.size ≤ 65536) (ha : (Lit.int .i64 a).wf = true) (h : plB a = true) (hy : y ≠ 0) (hi : Calls Tryz.prog 10 #[.string s] w fun e w' => ListAns w.heap.size n x y R w e w') :
    Calls Tryz.prog 12 #[.string s, .int .i64 a] w fun e w' => RowAns w.heap.size [] y w e w' := by
  have hb : (y == 0) = false := by simpa using hy
  go_enter Tryz.func12, Tryz.ntmps12
  go_wp2_with (first | (go_at_call 28; refine (placeC a _ ha).mono ?_; rintro e w' ⟨rfl, rfl⟩; rw [h]) | (go_at_call 10; refine hi.mono ?_; rintro e w' ⟨⟨p, c, rfl, ho⟩, hb1⟩))
  go_ret2
  exact ⟨⟨_, _, rfl, .inl rfl⟩, hb1⟩

theorem sortC_of {zs ys us : List Int} (hys : (zs.mergeSort fun x y => decide (x ≤ y)) = ys) (h : sortC zs = us) : Lib.compact ys = us := by
  unfold sortC at h
  rw [hys] at h
  exact h
theorem isCl_yes {R : Nat → Int} {i : Nat} (h : isCl R i = true) : R (i * 5) = 3 ∧ R (i * 5 + 1) = 1 := of_decide_eq_true h
set_option maxRecDepth 100000 in
set_option maxHeartbeats 8000000 in
theorem callsImplYes (s : ByteArray) (a : Int) (N : Nat) (R : Nat → Int) (w : World) (hs : s.size ≤ 65536) (ha : (Lit.int .i64 a).wf = true) (h : plB a = true) (hN : N ≤ 64) (hsm : ∀ i, i < N → Small5 R i) (hi : Calls Tryz.prog 10 #[.string s] w fun e w' => ListAns w.heap.size N 0 0 R w e w') :
    Calls Tryz.prog 12 #[.string s, .int .i64 a] w fun e w' => RowAns w.heap.size (sortC (clU R a N)) 0 w e w' := by
  obtain ⟨i0, hi0, hz0, hz1, hz2⟩ := info_parts Tryz.info_int5
  have a01 : 0 ≤ a ∧ a ≤ 1048575 := by simp [plB] at h; omega
  obtain ⟨a0, a1⟩ := a01
  obtain ⟨us, hus⟩ : ∃ us, sortC (clU R a N) = us := ⟨_, rfl⟩
  rw [hus]
  have HU : Hid (sortC (clU R a N) = us) := hus
  clear hus
  go_enter Tryz.func12, Tryz.ntmps12
  go_wp2_with (first | (go_at_call 28; refine (placeC a _ ha).mono ?_; rintro e w' ⟨rfl, rfl⟩; rw [h]) | (go_at_call 10; refine hi.mono ?_; rintro e w1 ⟨⟨p, c, rfl, ho⟩, hb1⟩))
  have hL := ho.list
  have HB : Hid (Below w'.heap.size w' w1) := hb1
  clear ho hb1 hi
  go_loopw [9, 31] (fun v i wr => ∃ k : Nat, k ≤ N ∧ i = .int .i64 k ∧ wr.ownsRow w1.heap.size 3 1 v (clU R a k).length ((clU R a k).map (Value.int .i64)) ∧ Below w1.heap.size w1 wr) (fun _ i _ => N - (intOf i).toNat)
  case atStart => exact ⟨0, Nat.zero_le _, rfl, World.ownsRow_nil _ _ _ _, Below.refl _ _⟩
  case round =>
    obtain ⟨k, hk, rfl, hown, hB⟩ := hrel
    by_cases hlt : k < N
    · rcases hL with hL | ⟨b, o, rfl, hb, hL⟩
      · omega
      have hs5 := hsm k hlt
      have hx := hL.below hB hb
      obtain ⟨x0, x1, x2, x3, x4⟩ := hx.five hlt
      obtain ⟨r0, e0⟩ : ∃ r, R (k * 5) = r := ⟨_, rfl⟩
      obtain ⟨r1, e1⟩ : ∃ r, R (k * 5 + 1) = r := ⟨_, rfl⟩
      obtain ⟨r2, e2⟩ : ∃ r, R (k * 5 + 2) = r := ⟨_, rfl⟩
      obtain ⟨r3, e3⟩ : ∃ r, R (k * 5 + 3) = r := ⟨_, rfl⟩
      obtain ⟨r4, e4⟩ : ∃ r, R (k * 5 + 4) = r := ⟨_, rfl⟩
      have j0 := hs5.i0
      have j1 := hs5.i1
      rw [e0] at x0
      rw [e1] at x1
      rw [e2] at x2
      rw [e3] at x3
      rw [e4] at x4 j0 j1
      have hsz := hB.size
      have bA : Below wr.heap.size wr (wr.alloc (.cells #[.int .i64 r0, .int .i64 r1, .int .i64 r2, .int .i64 r3, .int .i64 r4] 39)) := grown1 _ _
      have hown1 := row_below hown bA
      have hB1 := hB.trans (bA.mono hsz)
      have y0 : (wr.alloc (.cells #[.int .i64 r0, .int .i64 r1, .int .i64 r2, .int .i64 r3, .int .i64 r4] 39)).cell? ⟨wr.heap.size, 0, none⟩ = some (.int .i64 r0) := by simp
      have y1 : (wr.alloc (.cells #[.int .i64 r0, .int .i64 r1, .int .i64 r2, .int .i64 r3, .int .i64 r4] 39)).cell? ⟨wr.heap.size, 1, none⟩ = some (.int .i64 r1) := by simp
      have y2 : (wr.alloc (.cells #[.int .i64 r0, .int .i64 r1, .int .i64 r2, .int .i64 r3, .int .i64 r4] 39)).cell? ⟨wr.heap.size, 2, none⟩ = some (.int .i64 r2) := by simp
      have y3 : (wr.alloc (.cells #[.int .i64 r0, .int .i64 r1, .int .i64 r2, .int .i64 r3, .int .i64 r4] 39)).cell? ⟨wr.heap.size, 3, none⟩ = some (.int .i64 r3) := by simp
      have y4 : (wr.alloc (.cells #[.int .i64 r0, .int .i64 r1, .int .i64 r2, .int .i64 r3, .int .i64 r4] 39)).cell? ⟨wr.heap.size, 4, none⟩ = some (.int .i64 r4) := by simp
      have ly : wr.heap.size < (wr.alloc (.cells #[.int .i64 r0, .int .i64 r1, .int .i64 r2, .int .i64 r3, .int .i64 r4] 39)).heap.size := by simp
      clear hL hx hown hB
      by_cases hc : isCl R k = true
      · obtain ⟨rfl, rfl⟩ : r0 = 3 ∧ r1 = 1 := by rw [← e0, ← e1]; exact isCl_yes hc
        have eT : clT R a k = a + 4 * (k : Int) + r4 := by unfold clT; rw [e4]
        have eU : clU R a (k + 1) = clU R a k ++ [a + 4 * (k : Int) + r4] := by rw [clU_succ, if_pos hc, eT]
        have hlen := clU_len R a k
        clear e0 e1 e2 e3 e4
        go_wp2_with fail
        refine (isCallYes _ _ _ _ _ _ ⟨rfl, rfl⟩).mono ?_
        rintro e w2 ⟨rfl, hb2⟩
        have hown2 := row_below hown1 hb2
        have hB2 := hB1.trans (hb2.mono (by simp; omega))
        have z0 := (hb2.cell (p := ⟨wr.heap.size, 0, none⟩) ly).trans y0
        have z1 := (hb2.cell (p := ⟨wr.heap.size, 1, none⟩) ly).trans y1
        have z2 := (hb2.cell (p := ⟨wr.heap.size, 2, none⟩) ly).trans y2
        have z3 := (hb2.cell (p := ⟨wr.heap.size, 3, none⟩) ly).trans y3
        have z4 := (hb2.cell (p := ⟨wr.heap.size, 4, none⟩) ly).trans y4
        have lz := Nat.lt_of_lt_of_le ly hb2.size
        clear hown1 hB1 hb2 y0 y1 y2 y3 y4
        go_wp2_with fail
        refine (targetC a k _ _ _ _ _ _ a0 a1 (by omega) j0 j1).mono ?_
        rintro e w3 ⟨rfl, hb3⟩
        have hown3 := row_below hown2 hb3
        have hB3 := hB2.trans (hb3.mono (by have := hB2.size; omega))
        have s3 := hB3.size
        clear hown2 hB2 hb3 z0 z1 z2 z3 z4
        go_wp2_with (at_builtin; refine wpList_append_own_at _ rfl _ _ 35 rfl w1.heap.size 3 i0 _ 1 8 Tryz.underlying35 hi0 hz0 hz1 hz2 rfl (by decide) _ _ _ rfl (hown3.alloc _) ⟨w3.heap.size, 0, none⟩ 1 1 [.int .i64 (a + 4 * (k : Int) + r4)] rfl rfl (World.news_of_block (cs := #[.int .i64 (a + 4 * (k : Int) + r4)]) (t := 3) (fr := (0, 0)) (heap_alloc_new w3 _)) (by simp [Value.oneCell']) (by unfold maxLen; omega) (by omega) (by simp; omega) ?_; intro v' w4 hown4 hg4 hn4 hat4)
        go_roundw
        case rel =>
          refine ⟨k + 1, by omega, by go_num, ?_, (hB3.alloc s3 _).grown hg4 (by simp; omega) (fun i e => (hown3.lt i e).1)⟩
          rw [eU, List.length_append, List.map_append]
          exact hown4
        case measure => simp [intOf]; omega
      · have hcn : ¬ (r0 = 3 ∧ r1 = 1) := by rw [← e0, ← e1]; exact fun hh => hc (decide_eq_true hh)
        have eU : clU R a (k + 1) = clU R a k := by rw [clU_succ, if_neg hc, List.append_nil]
        clear e0 e1 e2 e3 e4
        go_wp2_with fail
        refine (isCallNo _ _ _ _ _ _ hcn).mono ?_
        rintro e w2 ⟨rfl, hb2⟩
        have hown2 := row_below hown1 hb2
        have hB2 := hB1.trans (hb2.mono (by simp; omega))
        clear hown1 hB1 hb2 y0 y1 y2 y3 y4
        go_wp2_with fail
        go_roundw
        case rel => exact ⟨k + 1, by omega, by go_num, by rw [eU]; exact hown2, hB2⟩
        case measure => simp [intOf]; omega
    · obtain rfl : k = N := by omega
      have hlen := clU_len R a k
      have hsz := hB.size
      obtain ⟨p9, c9, rfl, hc9, ho⟩ := ownI_of_row hown
      obtain ⟨zs, hzs⟩ : ∃ zs, clU R a k = zs := ⟨_, rfl⟩
      rw [hzs] at ho hc9 hlen ⊢
      clear hown
      have srt := fun w' (h : OwnI w' w1.heap.size p9 zs.length (fun i => zs.getD i 0)) => sortedC p9 c9 zs w1.heap.size w' h (by omega)
      obtain ⟨ys, hys⟩ : ∃ ys, (zs.mergeSort fun x y => decide (x ≤ y)) = ys := ⟨_, rfl⟩
      have hl : zs.length = ys.length := by rw [← hys, List.length_mergeSort]
      rw [hys] at srt
      have cmp := fun w' (h : OwnI w' w1.heap.size p9 ys.length (fun i => ys.getD i 0)) => compactC p9 c9 ys w1.heap.size w' (by omega) h (by omega)
      rw [← hl] at cmp
      have hus : Lib.compact ys = us := sortC_of hys (by rw [← hzs]; exact HU.out)
      rw [hus] at cmp
      obtain ⟨n, hn⟩ : ∃ n, zs.length = n := ⟨_, rfl⟩
      rw [hn] at srt cmp ho hc9 ⊢
      clear hys hus hl hzs hlen HU hn hL hsm hsz hk hN h hi0 hz0 hz1 hz2
      have HS : Hid (_) := srt
      have HC : Hid (_) := cmp
      clear srt cmp
      go_wp2_with fail
      refine (HS.out _ ho).mono ?_
      rintro e w2 ⟨rfl, hb2, ho2⟩
      have HB2 := hB.trans hb2
      clear ho hb2 HS
      go_wp2_with fail
      refine (HC.out _ ho2).mono ?_
      rintro e w3 ⟨rfl, hb3, ho3⟩
      have HB3 := HB2.trans hb3
      clear ho2 hb3 HC HB2
      go_wp2_with fail
      go_ret2
      refine ⟨⟨_, _, rfl, ?_⟩, HB.out.trans (HB3.mono HB.out.size)⟩
      rcases ho3 with e | ⟨g, e1, e2, e3, e4⟩
      · exact .inl e
      · exact .inr ⟨g, e1, Nat.le_trans HB.out.size e2, e3, e4⟩
end Go.Proofs.YtiandbhcjecphaaGreatDoor

namespace Go.Proofs.YtiandbhcjecphaaGreatDoor
open Go Go.RowKit Go.Sort
set_option linter.unusedVariables false

theorem row_cut {w : World} {B e g n k cap : Nat} {xs : List Value} (h : w.ownsRow B e 1 (.slice (some ⟨g, 0, none⟩) n cap) n xs) (hk : k ≤ n) : w.ownsRow B e 1 (.slice (some ⟨g, 0, none⟩) k cap) k (xs.take k) := by
  have hl := h.1
  rcases h.2 with ⟨hv, _⟩ | ⟨g', cap', cur, hv, h1, h2, h3, h4, h5, h6⟩
  · cases hv
  · obtain ⟨rfl, rfl⟩ : g = g' ∧ cap = cap' := by simpa using hv
    refine ⟨by rw [List.length_take]; omega, .inr ⟨g, cap, cur, rfl, h1, h2, by omega, h4, h5, ?_⟩⟩
    rw [← h6, List.take_take]
    congr 1
    omega
theorem row_form {w : World} {B e n : Nat} {v : Value} {xs : List Value} (h : w.ownsRow B e 1 v n xs) (hv : v ≠ .slice none 0 0) : ∃ g cap, v = .slice (some ⟨g, 0, none⟩) n cap ∧ n ≤ cap ∧ g < w.heap.size := by
  rcases h.2 with ⟨hv', _⟩ | ⟨g, cap, cur, hv', h1, h2, h3, h4⟩
  · exact absurd hv' hv
  · exact ⟨g, cap, hv', h3, (Array.getElem?_eq_some_iff.1 h2).1⟩

theorem news_drop {w : World} {B e g n cap m : Nat} {xs : List Value} (h : w.ownsRow B e 1 (.slice (some ⟨g, 0, none⟩) n cap) n xs) : ∀ j u, (xs.drop m)[j]? = some u → w.cell? ((⟨g, m, none⟩ : Addr).add j) = some u := by
  intro j u hu
  have hadd : (⟨g, m, none⟩ : Addr).add j = ⟨g, m + j, none⟩ := by unfold Addr.add; split <;> simp_all
  have hadd0 : (⟨g, 0, none⟩ : Addr).add (m + j) = ⟨g, m + j, none⟩ := by unfold Addr.add; split <;> simp_all
  rw [List.getElem?_drop] at hu
  rw [hadd, ← hadd0]
  exact h.cells (g := g) rfl _ _ hu
theorem one_cells (l : List Int) : ∀ u ∈ l.map (Value.int .i64), u.oneCell' = true := by
  intro u hu
  obtain ⟨x, _, rfl⟩ := List.mem_map.1 hu
  rfl

end Go.Proofs.YtiandbhcjecphaaGreatDoor

namespace Go.Proofs.YtiandbhcjecphaaGreatDoor
open Go Go.RowKit Go.Sort
set_option linter.unusedVariables false

end Go.Proofs.YtiandbhcjecphaaGreatDoor

namespace Go.Proofs.YtiandbhcjecphaaGreatDoor.Fu
open Go Go.RowKit Go.Sort
set_option linter.unusedVariables false

theorem sortC_nil : sortC [] = [] := by
  have h := (sortC_asc []).2
  cases e : sortC [] with
  | nil => rfl
  | cons x xs =>
    have := (h x).1 (by rw [e]; exact List.mem_cons_self)
    cases this
/-- The text s of the instructions R, n of them, of a function of frame f. -/
structure Text (f : Int) (n : Nat) (R : Nat → Int) (s : ByteArray) : Prop where
  size : s.size = 4 * n
  words : Hid (∀ (p : Option Addr) (c : Nat) (w : World), Laid w → ListAt w p n R → Calls Tryz.prog 9 #[.slice p n c] w fun e w' => e = .returned (.tuple #[.string s, .int .i64 0]) ∧ Below w.heap.size w w')
  instrs : Hid (∀ w, Laid w → Calls Tryz.prog 10 #[.string s] w fun e w' => ListAns w.heap.size n 0 0 R w e w')
  lint : Hid (∀ w, Laid w → Calls Tryz.prog 11 #[.string s, .int .i64 8192, .int .i64 f, .slice none 0 0] w fun e w' => e = .returned (.tuple #[.int .i64 0, .int .i64 0]) ∧ Below w.heap.size w w')
  other : Hid (∀ (g : Int) w, Laid w → g ≠ f → frB g = true → Calls Tryz.prog 11 #[.string s, .int .i64 8192, .int .i64 g, .slice none 0 0] w fun e w' => e = .returned (.tuple #[.int .i64 0, .int .i64 17]) ∧ Below w.heap.size w w')
  calls : Hid (∀ w, Laid w → Calls Tryz.prog 12 #[.string s, .int .i64 8192] w fun e w' => ∃ p c, e = .returned (.tuple #[.slice p 0 c, .int .i64 0]) ∧ Below w.heap.size w w')
  phase : Hid (∀ k : Nat, k < n → ∃ x : Int, ((x = 0) ↔ (k = 0 ∨ k + 1 = n)) ∧ (∀ w, Laid w → Calls Tryz.prog 13 #[.string s, .int .i64 k] w fun e w' => e = .returned (.tuple #[.int .i64 x, .int .i64 0]) ∧ Below w.heap.size w w') ∧ (∀ w, Calls Tryz.prog 14 #[.string s, .int .i64 k] w fun e w' => e = .returned (.tuple #[.int .i64 x, .int .i64 0]) ∧ Below w.heap.size w w'))

theorem text_all {f : Int} {n : Nat} {R : Nat → Int} {s : ByteArray} (hn : 5 ≤ n) (hn6 : n ≤ 64) (hs : s = ⟨(wL R n).toArray⟩) (hf : frB f = true) (hrt : ∀ k, k < n → rtB R k = true) (hcl : clU R 8192 n = []) (hln : LintIs R n f 8192 [] 0 0) (hlo : ∀ g, g ≠ f → LintIs R n g 8192 [] 0 17)
    (hph : ∀ k, k < n → ((phI k (R (k * 5)) (R (k * 5 + 1)) = 0) ↔ (k = 0 ∨ k + 1 = n))) : Text f n R s := by
  obtain ⟨f0, f1, fw⟩ := frB_bd hf
  have hrun : Run s n R n := by rw [hs]; exact run_text R n hn6 hrt
  have hsz := hrun.size
  have hm : s.size ≤ maxLen := by unfold maxLen; omega
  have h4 : s.size % 4 = 0 ∧ s.size ≤ 256 := by omega
  have c0 : crC s.size 0 = 0 := by unfold crC; rw [if_neg (by omega), if_pos (by omega)]
  have aw : (Lit.int .i64 8192).wf = true := by decide
  have ap : plB 8192 = true := by decide
  have cf : ∀ g, frB g = true → cfC s.size ([] : List Int).length 8192 g = 0 := fun g hg => by
    unfold cfC crC
    rw [if_neg (by simp; omega), if_neg (by rw [ap]; decide), if_neg (by rw [hg]; decide), if_neg (by omega), if_pos (by omega)]
  have hi : ∀ w, Laid w → Calls Tryz.prog 10 #[.string s] w fun e w' => ListAns w.heap.size n 0 0 R w e w' := fun w hL => instrsImplYes s n n R w hL hrun rfl h4 c0
  refine ⟨hsz, fun p c w hL hp => ?_, hi, fun w hL => ?_, fun g w hL hg hgf => ?_, fun w hL => ?_, fun k hk => ?_⟩
  · rw [hs]
    exact implWords p n c R w hL hn6 hp hrt
  · exact lintImplYes s 8192 f none 0 [] n R w hL hm (by simp) (.inl rfl) aw fw (cf f hf) hrun hn hn6 (by omega) (by omega) hf 0 0 hln
  · obtain ⟨g0, g1, gw⟩ := frB_bd hgf
    exact lintImplYes s 8192 g none 0 [] n R w hL hm (by simp) (.inl rfl) aw gw (cf g hgf) hrun hn hn6 (by omega) (by omega) hgf 0 17 (hlo g hg)
  · have h := callsImplYes s 8192 n R w (by omega) aw ap hn6 (fun i hi => small_of (hrun.right i hi)) (hi w hL)
    rw [hcl, sortC_nil] at h
    exact h.mono fun e w' ⟨⟨p, c, he, _⟩, hb⟩ => ⟨p, c, he, hb⟩
  · exact ⟨_, hph k hk, fun w hL => phaseImplRun s n n k R w hL hrun h4 c0 hk _ 0 (.inl ⟨rfl, rfl, rfl⟩), fun w => phaseSpecRun s n n k R w hrun h4 hk _ 0 (.inl ⟨rfl, rfl, rfl⟩)⟩
theorem text_of {f : Int} {Bd : List I5} (hf : frB f = true) (hB : Body f 8192 [] 2 Bd) (hl : Bd.length ≤ 51) : ∃ s, Text f (Fun f Bd).length (rz (Fun f Bd)) s := by
  have hright := fun_right hf hB
  have hlen := Fun_len f Bd
  refine ⟨_, text_all (by omega) (by omega) rfl hf (fun k hk => rt_of hright hk) ?_ ?_ ?_ ?_⟩
  · rw [hlen]; exact fun_calls hB 8192
  · rw [hlen]; exact fun_lint hB
  · intro g hg; rw [hlen]; exact fun_lint_other [] 8192 hg
  · intro k hk
    rw [fun_phase hB (by omega)]
    omega
end Go.Proofs.YtiandbhcjecphaaGreatDoor.Fu

namespace Go.Proofs.YtiandbhcjecphaaGreatDoor.Fu
open Go Go.RowKit
set_option linter.unusedVariables false

theorem next_one (b : Nat) (n : Int) (w : World) (hn : n ≤ 1) :
    Calls Tryz.prog 20 #[.pointer (some ⟨b, 0, none⟩), .int .i64 n] w fun e w' => e = .returned (.int .i64 0) ∧ w' = w := by
  go_enter Tryz.func20, Tryz.ntmps20
  go_wp2
  go_ret
  exact ⟨rfl, rfl⟩
theorem next_any (B b len cap m n : Nat) (a : Option Addr) (w : World) (h : Ctx w B b a len cap m) (hm : m ≤ 100000) (hn0 : 1 ≤ n) (hn1 : n ≤ 256) :
    Calls Tryz.prog 20 #[.pointer (some ⟨b, 0, none⟩), .int .i64 n] w fun e w' => ∃ v : Nat, v < n ∧ e = .returned (.int .i64 v) ∧ Ctx w' B b a len cap (m + 1) ∧ w.grownBy w' (some b) := by
  by_cases h1 : n = 1
  · subst h1
    exact (next_one b _ w (by omega)).mono fun e w' ⟨he, hw⟩ => ⟨0, by omega, he, by rw [hw]; exact h.mono (by omega), by rw [hw]; exact grownBy_refl _ _⟩
  · exact next_small B b len cap m n a w h hm (by omega) hn1

theorem reg_ctx (B b len cap m : Nat) (a : Option Addr) (w : World) (h : Ctx w B b a len cap m) (hm : m ≤ 90000) :
    Calls Tryz.prog 61 #[.pointer (some ⟨b, 0, none⟩)] w fun e w' => ∃ v : Int, (5 ≤ v ∧ v ≤ 28) ∧ e = .returned (.int .i64 v) ∧ Ctx w' B b a len cap (m + 1) ∧ w.grownBy w' (some b) := by
  go_enter Tryz.func61, Tryz.ntmps61
  go_wp2_with fail
  refine (next_small B b len cap _ 7 a _ (h.alloc _) (by omega) (by omega) (by omega)).mono ?_
  rintro e w3 ⟨v, hv, rfl, hc, hg⟩
  have hbw := h.bw
  have hkeep := World.cell?_of_block (a := ⟨w.heap.size, v, none⟩) (hg.block w.heap.size (by simp) (by intro e; injection e; omega))
  obtain ⟨q, hin, hq⟩ : ∃ q : Int, (5 ≤ q ∧ q ≤ 28) ∧ w3.cell? ⟨w.heap.size, v, none⟩ = some (.int .i64 q) := by
    rw [hkeep]
    rcases (show v = 0 ∨ v = 1 ∨ v = 2 ∨ v = 3 ∨ v = 4 ∨ v = 5 ∨ v = 6 by omega) with rfl | rfl | rfl | rfl | rfl | rfl | rfl
    · exact ⟨5, by omega, by simp⟩
    · exact ⟨6, by omega, by simp⟩
    · exact ⟨7, by omega, by simp⟩
    · exact ⟨10, by omega, by simp⟩
    · exact ⟨11, by omega, by simp⟩
    · exact ⟨12, by omega, by simp⟩
    · exact ⟨28, by omega, by simp⟩
  have hq' : w3.cell? ⟨w.heap.size, 0 + v, none⟩ = some (.int .i64 q) := by rw [Nat.zero_add]; exact hq
  have hg' : w.grownBy w3 (some b) := grownBy_trans (World.grownBy_alloc w _ _) hg
  clear hkeep hg h
  go_wp2
  go_ret
  exact ⟨q, hin, rfl, hc, hg'⟩

theorem frame_ctx (B b len cap m : Nat) (a : Option Addr) (w : World) (h : Ctx w B b a len cap m) (hm : m ≤ 90000) :
    Calls Tryz.prog 18 #[.pointer (some ⟨b, 0, none⟩)] w fun e w' => ∃ f : Int, frB f = true ∧ e = .returned (.int .i64 f) ∧ Ctx w' B b a len cap (m + 1) ∧ w.grownBy w' (some b) := by
  go_enter Tryz.func18, Tryz.ntmps18
  go_wp2_with fail
  refine (next_small B b len cap _ 6 a _ (h.alloc _) (by omega) (by omega) (by omega)).mono ?_
  rintro e w3 ⟨v, hv, rfl, hc, hg⟩
  have hbw := h.bw
  have hkeep := World.cell?_of_block (a := ⟨w.heap.size, v, none⟩) (hg.block w.heap.size (by simp) (by intro e; injection e; omega))
  obtain ⟨q, hin, hq⟩ : ∃ q : Int, frB q = true ∧ w3.cell? ⟨w.heap.size, v, none⟩ = some (.int .i64 q) := by
    rw [hkeep]
    rcases (show v = 0 ∨ v = 1 ∨ v = 2 ∨ v = 3 ∨ v = 4 ∨ v = 5 by omega) with rfl | rfl | rfl | rfl | rfl | rfl
    · exact ⟨16, by decide, by simp⟩
    · exact ⟨32, by decide, by simp⟩
    · exact ⟨48, by decide, by simp⟩
    · exact ⟨128, by decide, by simp⟩
    · exact ⟨32, by decide, by simp⟩
    · exact ⟨64, by decide, by simp⟩
  have hq' : w3.cell? ⟨w.heap.size, 0 + v, none⟩ = some (.int .i64 q) := by rw [Nat.zero_add]; exact hq
  have hg' : w.grownBy w3 (some b) := grownBy_trans (World.grownBy_alloc w _ _) hg
  clear hkeep hg h
  go_wp2
  go_ret
  exact ⟨q, hin, rfl, hc, hg'⟩

/-- A list of ints that lies below block X, apart from block b. -/
def Ints (w : World) (X b : Nat) (p : Option Addr) (zs : List Int) : Prop := X ≤ w.heap.size ∧ (zs.length = 0 ∨ ∃ c o, p = some ⟨c, o, none⟩ ∧ c < X ∧ c ≠ b ∧ ∀ i z, zs[i]? = some z → w.cell? ⟨c, o + i, none⟩ = some (.int .i64 z))
theorem Ints.grown {w w' : World} {X b : Nat} {p : Option Addr} {zs : List Int} (h : Ints w X b p zs) (hg : w.grownBy w' (some b)) : Ints w' X b p zs := by
  obtain ⟨hX, h⟩ := h
  refine ⟨Nat.le_trans hX hg.size, ?_⟩
  rcases h with h | ⟨c, o, h1, h2, h3, h4⟩
  · exact .inl h
  · exact .inr ⟨c, o, h1, h2, h3, fun i z hz => (World.cell?_of_block (a := ⟨c, o + i, none⟩) (hg.block c (by omega) (by intro e; injection e; omega))).trans (h4 i z hz)⟩
theorem Ints.far {w w' : World} {X b g : Nat} {p : Option Addr} {zs : List Int} (h : Ints w X b p zs) (hg : w.grownBy w' (some g)) (hX : X ≤ g) : Ints w' X b p zs := by
  obtain ⟨hX', h⟩ := h
  refine ⟨Nat.le_trans hX' hg.size, ?_⟩
  rcases h with h | ⟨c, o, h1, h2, h3, h4⟩
  · exact .inl h
  · exact .inr ⟨c, o, h1, h2, h3, fun i z hz => (World.cell?_of_block (a := ⟨c, o + i, none⟩) (hg.block c (by omega) (by intro e; injection e; omega))).trans (h4 i z hz)⟩
theorem ctx_far {w w' : World} {B b len cap m g : Nat} {a : Option Addr} (h : Ctx w B b a len cap m) (hg : w.grownBy w' (some g)) (hb : b < g) : Ctx w' B b a len cap m := by
  obtain ⟨⟨p, sd, hp, hs⟩, h1, h2, h3⟩ := h
  exact ⟨⟨p, sd, hp, hs.grown hg h3 (by intro e; injection e; omega)⟩, h1.grown hg (by omega) (by omega), h2, Nat.lt_of_lt_of_le h3 hg.size⟩

/-- The cells of a list of instructions. -/
def insV (L : List I5) : List Value := (zs5 L).map (Value.int .i64)
theorem insV_len (L : List I5) : (insV L).length = L.length * 5 := by simp [insV, zs5_len]
theorem insV_append (L M : List I5) : insV (L ++ M) = insV L ++ insV M := by simp [insV, zs5_append]
theorem insV_one (L : List I5) : ∀ u ∈ insV L, u.oneCell' = true := by
  intro u hu
  simp only [insV, List.mem_map] at hu
  obtain ⟨z, _, rfl⟩ := hu
  rfl
theorem insV_at {L : List I5} {j : Nat} (hj : j < L.length * 5) : (insV L)[j]? = some (.int .i64 (rz L j)) := by
  have hj' : j < (zs5 L).length := by rw [zs5_len]; exact hj
  unfold insV rz
  rw [List.getElem?_map, List.getElem?_eq_getElem hj', List.getD_eq_getElem?_getD, List.getElem?_eq_getElem hj']
  rfl
/-- The cells of a block that was just laid. -/
theorem cells_new (w : World) (cs : Array Value) (t : TypeId) (L : List I5) (h : cs.toList = insV L) : ∀ j u, (insV L)[j]? = some u → (w.alloc (.cells cs t)).cell? ⟨w.heap.size, j, none⟩ = some u := by
  intro j u hu
  rw [cell_of_row _ _ j cs t (0, 0) (heap_alloc_new w _)]
  rw [← h] at hu
  simpa using hu
/-- A list of the call's own, as it was laid. -/
theorem own_new (w : World) (B : Nat) (cs : Array Value) (t : TypeId) (L : List I5) (h : cs.toList = insV L) (hB : B ≤ w.heap.size) (hl : L.length ≤ 1000) : (w.alloc (.cells cs t)).ownsRow B t 5 (.slice (some ⟨w.heap.size, 0, none⟩) L.length L.length) L.length (insV L) := by
  have hs : cs.size = L.length * 5 := by
    rw [← insV_len, ← h, Array.length_toList]
  refine ⟨insV_len L, .inr ⟨w.heap.size, L.length, cs, rfl, hB, heap_alloc_new w _, Nat.le_refl _, by unfold maxLen; omega, hs, ?_⟩⟩
  rw [h, ← insV_len, List.take_length]
/-- A list of the call's own is read as a list. -/
theorem own_list {w : World} {B : Nat} {t : TypeId} {g cap : Nat} {L : List I5} (h : w.ownsRow B t 5 (.slice (some ⟨g, 0, none⟩) L.length cap) L.length (insV L)) (hl : 0 < L.length) : ListAt w (some ⟨g, 0, none⟩) L.length (rz L) := by
  have hlt := (h.lt g rfl).2
  refine .inr ⟨g, 0, rfl, hlt, fun i hi => ?_⟩
  have := h.cells rfl i _ (insV_at hi)
  rw [show ((⟨g, 0, none⟩ : Addr).add i) = ⟨g, 0 + i, none⟩ by unfold Addr.add; split <;> simp_all] at this
  exact this
end Go.Proofs.YtiandbhcjecphaaGreatDoor.Fu

namespace Go.Proofs.YtiandbhcjecphaaGreatDoor.Fu
open Go Go.RowKit
set_option linter.unusedVariables false

section
variable {f at' : Int} {cs : List Int}
theorem loc_addi {E k : Int} (rd r1 im : Int) (h0 : 3 ≤ rd ∧ rd ≤ 31) (h1 : 0 ≤ r1 ∧ r1 ≤ 31) (h2 : -2048 ≤ im ∧ im ≤ 2047) : Loc f at' cs E k ⟨22, rd, r1, 0, im⟩ :=
  ⟨right_22 rd r1 im (by omega) h1 h2, by show (22 : Int) ≠ 4; decide, fun h => absurd h (by show ¬ (22 : Int) = 3; decide), fun _ h => absurd h (by show ¬ (22 : Int) ≤ 10; decide), fun _ _ => ⟨by show rd ≠ 1; omega, by show rd ≠ 2; omega⟩, fun _ h => absurd h (by show ¬ (22 : Int) ≤ 21; decide)⟩
theorem loc_rr {E k : Int} (op rd r1 r2 : Int) (ho : (31 ≤ op ∧ op ≤ 40) ∨ (50 ≤ op ∧ op ≤ 62)) (h0 : 3 ≤ rd ∧ rd ≤ 31) (h1 : 0 ≤ r1 ∧ r1 ≤ 31) (h2 : 0 ≤ r2 ∧ r2 ≤ 31) : Loc f at' cs E k ⟨op, rd, r1, r2, 0⟩ := by
  have hs : (shT op).1 = 8 := by
    obtain ⟨n, rfl⟩ := Int.eq_ofNat_of_zero_le (show 0 ≤ op by omega)
    have key : ∀ j : Nat, j < 63 → ((31 ≤ j ∧ j ≤ 40) ∨ (50 ≤ j ∧ j ≤ 62)) → (shT (j : Int)).1 = 8 := by decide +kernel
    exact key n (by omega) (by omega)
  exact ⟨right_rr op rd r1 r2 (by omega) hs (by omega) h1 h2, by show op ≠ 4; omega, fun h => absurd h (by show ¬ op = 3; omega), fun _ h => absurd h (by show ¬ op ≤ 10; omega), fun _ _ => ⟨by show rd ≠ 1; omega, by show rd ≠ 2; omega⟩, fun _ h => absurd h (by show ¬ op ≤ 21; omega)⟩
theorem loc_ec {E k : Int} : Loc f at' cs E k ⟨63, 0, 0, 0, 0⟩ :=
  ⟨right_ec 63 (.inl rfl), by show (63 : Int) ≠ 4; decide, fun h => absurd h (by show ¬ (63 : Int) = 3; decide), fun _ h => absurd h (by show ¬ (63 : Int) ≤ 10; decide), fun _ _ => ⟨by show (0 : Int) ≠ 1; decide, by show (0 : Int) ≠ 2; decide⟩, fun _ h => absurd h (by show ¬ (63 : Int) ≤ 21; decide)⟩
theorem loc_lui {E k : Int} (rd im : Int) (h0 : 3 ≤ rd ∧ rd ≤ 31) (h2 : -2147483648 ≤ im ∧ im ≤ 2147479552 ∧ im % 4096 = 0) : Loc f at' cs E k ⟨1, rd, 0, 0, im⟩ :=
  ⟨right_lui rd im (by omega) h2, by show (1 : Int) ≠ 4; decide, fun h => absurd h (by show ¬ (1 : Int) = 3; decide), fun h _ => absurd h (by show ¬ (5 : Int) ≤ 1; decide), fun _ _ => ⟨by show rd ≠ 1; omega, by show rd ≠ 2; omega⟩, fun h _ => absurd h (by show ¬ (11 : Int) ≤ 1; decide)⟩
theorem loc_ld {E k : Int} (rd r1 im : Int) (h0 : 3 ≤ rd ∧ rd ≤ 31) (h1 : 0 ≤ r1 ∧ r1 ≤ 31) (h2 : -2048 ≤ im ∧ im ≤ 2047) (hm : r1 = 2 → 0 ≤ im ∧ im ≤ f - 16 ∧ im % 8 = 0) : Loc f at' cs E k ⟨14, rd, r1, 0, im⟩ :=
  ⟨right_ld 14 rd r1 im (by omega) (by omega) h1 h2, by show (14 : Int) ≠ 4; decide, fun h => absurd h (by show ¬ (14 : Int) = 3; decide), fun _ h => absurd h (by show ¬ (14 : Int) ≤ 10; decide), fun _ _ => ⟨by show rd ≠ 1; omega, by show rd ≠ 2; omega⟩, fun _ _ h => by
    have := hm h
    show 0 ≤ im ∧ im ≤ f - 8 - 8 ∧ im % 8 = 0
    omega⟩
theorem loc_sd {E k : Int} (r1 r2 im : Int) (h0 : 0 ≤ r1 ∧ r1 ≤ 31) (h1 : 0 ≤ r2 ∧ r2 ≤ 31) (h2 : -2048 ≤ im ∧ im ≤ 2047) (hm : r1 = 2 → 0 ≤ im ∧ im ≤ f - 16 ∧ im % 8 = 0) : Loc f at' cs E k ⟨21, 0, r1, r2, im⟩ :=
  ⟨right_st 21 r1 r2 im (by omega) h0 h1 h2, by show (21 : Int) ≠ 4; decide, fun h => absurd h (by show ¬ (21 : Int) = 3; decide), fun _ h => absurd h (by show ¬ (21 : Int) ≤ 10; decide), fun _ _ => ⟨by show (0 : Int) ≠ 1; decide, by show (0 : Int) ≠ 2; decide⟩, fun _ _ h => by
    have := hm h
    show 0 ≤ im ∧ im ≤ f - 8 - 8 ∧ im % 8 = 0
    omega⟩
theorem loc_br {E k : Int} (op r1 r2 im : Int) (ho : 5 ≤ op ∧ op ≤ 10) (h0 : 0 ≤ r1 ∧ r1 ≤ 31) (h1 : 0 ≤ r2 ∧ r2 ≤ 31) (h2 : im = 8 ∨ im = -8) (hE : 2 ≤ k + im / 4 ∧ k + im / 4 ≤ E) : Loc f at' cs E k ⟨op, 0, r1, r2, im⟩ :=
  ⟨right_br op r1 r2 im ho h0 h1 (by omega), by show op ≠ 4; omega, fun h => absurd h (by show ¬ op = 3; omega), fun _ _ => ⟨by show im % 4 = 0; omega, hE.1, hE.2⟩, fun _ h => absurd ho h, fun h _ => absurd h (by show ¬ (11 : Int) ≤ op; omega)⟩
theorem loc_back {E k : Int} (op r1 r2 : Int) (ho : 5 ≤ op ∧ op ≤ 10) (h0 : 0 ≤ r1 ∧ r1 ≤ 31) (h1 : 0 ≤ r2 ∧ r2 ≤ 31) (hk : 4 ≤ k) (hE : k ≤ E + 2) : Loc f at' cs E k ⟨op, 0, r1, r2, -8⟩ :=
  loc_br op r1 r2 (-8) ho h0 h1 (.inr rfl) (by
    have e : (-8 : Int) / 4 = -2 := by decide
    rw [e]
    omega)
theorem loc_jal {E k : Int} (c im : Int) (hc : c ∈ cs) (he : at' + 4 * k + im = c) (h2 : -1048576 ≤ im ∧ im ≤ 1048574 ∧ im % 2 = 0) : Loc f at' cs E k ⟨3, 1, 0, 0, im⟩ :=
  ⟨right_jal 1 im (by omega) h2, by show (3 : Int) ≠ 4; decide, fun _ => ⟨rfl, by show at' + 4 * k + im ∈ cs; rw [he]; exact hc⟩, fun h _ => absurd h (by show ¬ (5 : Int) ≤ 3; decide), fun h _ => absurd rfl h, fun h _ => absurd h (by show ¬ (11 : Int) ≤ 3; decide)⟩
theorem body1 {n : Nat} {x : I5} (h : Loc f at' cs ((n : Int) + 1) n x) : Body f at' cs n [x] := by
  intro k y hy
  match k, hy with
  | 0, hy =>
    obtain rfl : x = y := by simpa using hy
    simpa using h
theorem body2 {n : Nat} {x y : I5} (h0 : Loc f at' cs ((n : Int) + 2) n x) (h1 : Loc f at' cs ((n : Int) + 2) ((n : Int) + 1) y) : Body f at' cs n [x, y] := by
  intro k z hz
  match k, hz with
  | 0, hz =>
    obtain rfl : x = z := by simpa using hz
    simpa using h0
  | 1, hz =>
    obtain rfl : y = z := by simpa using hz
    simpa using h1
theorem body3 {n : Nat} {x y z : I5} (h0 : Loc f at' cs ((n : Int) + 3) n x) (h1 : Loc f at' cs ((n : Int) + 3) ((n : Int) + 1) y) (h2 : Loc f at' cs ((n : Int) + 3) ((n : Int) + 2) z) : Body f at' cs n [x, y, z] := by
  intro k u hz
  match k, hz with
  | 0, hz =>
    obtain rfl : x = u := by simpa using hz
    simpa using h0
  | 1, hz =>
    obtain rfl : y = u := by simpa using hz
    simpa using h1
  | 2, hz =>
    obtain rfl : z = u := by simpa using hz
    simpa using h2
theorem body4 {n : Nat} {x y z t : I5} (h0 : Loc f at' cs ((n : Int) + 4) n x) (h1 : Loc f at' cs ((n : Int) + 4) ((n : Int) + 1) y) (h2 : Loc f at' cs ((n : Int) + 4) ((n : Int) + 2) z) (h3 : Loc f at' cs ((n : Int) + 4) ((n : Int) + 3) t) : Body f at' cs n [x, y, z, t] := by
  intro k u hz
  match k, hz with
  | 0, hz =>
    obtain rfl : x = u := by simpa using hz
    simpa using h0
  | 1, hz =>
    obtain rfl : y = u := by simpa using hz
    simpa using h1
  | 2, hz =>
    obtain rfl : z = u := by simpa using hz
    simpa using h2
  | 3, hz =>
    obtain rfl : t = u := by simpa using hz
    simpa using h3
end
end Go.Proofs.YtiandbhcjecphaaGreatDoor.Fu

namespace Go.Proofs.YtiandbhcjecphaaGreatDoor.Fu
open Go Go.RowKit
set_option linter.unusedVariables false

/-- What a piece is drawn among: addresses that may be called, addresses of data. -/
structure Among (at' : Int) (cs ds : List Int) : Prop where
  at0 : 0 ≤ at' ∧ at' ≤ 500000 ∧ at' % 4 = 0
  calls : ∀ c ∈ cs, 0 ≤ c ∧ c ≤ 500000 ∧ c % 4 = 0
  datas : ∀ d ∈ ds, 0 ≤ d ∧ d ≤ 1048575 ∧ d % 4096 ≤ 2040
  cl : cs.length ≤ 256
  dl : ds.length ≤ 256
/-- What the draw of a piece answers. -/
def PieceAns (f at' : Int) (cs : List Int) (n : Nat) (B b len cap m : Nat) (a : Option Addr) (w : World) (e : Ending) (w' : World) : Prop :=
  ∃ (g : Nat) (L : List I5), e = .returned (.slice (some ⟨g, 0, none⟩) L.length L.length) ∧ 1 ≤ L.length ∧ L.length ≤ 4 ∧ Body f at' cs n L ∧ (∀ j u, (insV L)[j]? = some u → w'.cell? ⟨g, j, none⟩ = some u) ∧ Ctx w' B b a len cap (m + 10) ∧ w.grownBy w' (some b)
/-- A block laid last. -/
theorem piece_new {f at' : Int} {cs : List Int} {n B b len cap m m' : Nat} {a : Option Addr} {w W : World} {arr : Array Value} {t : TypeId} (L : List I5) (h : arr.toList = insV L) (h1 : 1 ≤ L.length) (h4 : L.length ≤ 4) (hB : Body f at' cs n L) (hc : Ctx W B b a len cap m') (hm : m' ≤ m + 10) (hg : w.grownBy W (some b)) (k : Nat) (hk : L.length = k) :
    PieceAns f at' cs n B b len cap m a w (.returned (.slice (some ⟨W.heap.size, 0, none⟩) k k)) (W.alloc (.cells arr t)) := by
  subst hk
  exact ⟨W.heap.size, L, rfl, h1, h4, hB, cells_new W arr t L h, (hc.mono hm).alloc _, grownBy_trans hg (World.grownBy_alloc W _ _)⟩
theorem five_drew {w : World} {d : Nat} {v0 v1 v2 v3 v4 : Int} (h : Five w d v0 v1 v2 v3 v4) : Five w.drew d v0 v1 v2 v3 v4 := ⟨h.c0, h.c1, h.c2, h.c3, h.c4, h.f0, h.f1, h.f2, h.f3, h.f4⟩

set_option maxRecDepth 100000 in
set_option maxHeartbeats 40000000 in
theorem body_ctx (X B b len cap m n : Nat) (at' f : Int) (cs ds : List Int) (pc pd : Option Addr) (cc cd : Nat) (a : Option Addr) (w : World) (h : Ctx w B b a len cap m) (hm : m ≤ 80000) (h2 : 2 ≤ n) (hn : n ≤ 60) (hf : frB f = true) (hA : Among at' cs ds) (hc : Ints w X b pc cs) (hd : Ints w X b pd ds) :
    Calls Tryz.prog 40 #[.pointer (some ⟨b, 0, none⟩), .int .i64 n, .int .i64 at', .int .i64 f, .slice pc cs.length cc, .slice pd ds.length cd] w fun e w' => PieceAns f at' cs n B b len cap m a w e w' := by
  obtain ⟨f0, f1, _⟩ := frB_bd hf
  have hf8 : f % 16 = 0 := by
    have := of_decide_eq_true hf
    exact this.2.2
  go_enter Tryz.func40, Tryz.ntmps40
  go_wp2_with fail
  refine (reg_ctx B b len cap m a w h (by omega)).mono ?_
  rintro e w1 ⟨ra, hra, rfl, c1, g1⟩
  go_wp2_with fail
  refine (reg_ctx B b len cap _ a _ c1 (by omega)).mono ?_
  rintro e w2 ⟨rb, hrb, rfl, c2, g2⟩
  have G2 := grownBy_trans g1 g2
  clear g1 g2 c1
  go_wp2_with fail
  refine (reg_ctx B b len cap _ a _ c2 (by omega)).mono ?_
  rintro e w3 ⟨rc, hrc, rfl, c3, g3⟩
  have G3 := grownBy_trans G2 g3
  clear g3 c2 G2
  go_wp2_with fail
  refine (next_small B b len cap _ 40 a _ c3 (by omega) (by omega) (by omega)).mono ?_
  rintro e w4 ⟨v, hv, rfl, c4, g4⟩
  have G4 := grownBy_trans G3 g4
  clear g4 c3 G3
  have hv1 : (v : Int) < 40 := by omega
  go_wp2_with fail
  obtain ⟨W, hW⟩ : ∃ W, w4.alloc (.cells #[.int .i64 22, .int .i64 ra, .int .i64 rb, .int .i64 0, .int .i64 ((v : Int) - 8)] 39) = W := ⟨_, rfl⟩
  have P0 : Five W w4.heap.size 22 ra rb 0 ((v : Int) - 8) := by rw [← hW]; constructor <;> simp
  have C0 : Ctx W B b a len cap (m + 4) := by rw [← hW]; exact (c4.alloc _).mono (by omega)
  have G0 : w.grownBy W (some b) := by rw [← hW]; exact grownBy_trans G4 (World.grownBy_alloc w4 _ _)
  have z0 : w4.heap.size < W.heap.size := by rw [← hW]; simp
  have hb4 : b < w4.heap.size := c4.bw
  rw [hW]
  clear hW G4 c4
  generalize w4.heap.size = P at *
  refine (next_small B b len cap _ 11 a _ C0 (by omega) (by omega) (by omega)).mono ?_
  rintro e w5 ⟨y, hy, rfl, c5, g5⟩
  have P5 := P0.grown g5 z0 (by intro e; injection e; omega)
  have G5 := grownBy_trans G0 g5
  have z5 : P < w5.heap.size := Nat.lt_of_lt_of_le z0 g5.size
  have I5 := hc.grown G5
  have D5 := hd.grown G5
  clear g5 C0 P0 G0 z0 hc hd h
  have hpl : ∀ E k, Loc f at' cs E k ⟨22, ra, rb, 0, (v : Int) - 8⟩ := fun E k => loc_addi ra rb _ (by omega) (by omega) (by omega)
  have HP : Hid (∀ E k, Loc f at' cs E k ⟨22, ra, rb, 0, (v : Int) - 8⟩) := hpl
  clear hpl
  have q0 := P5.c0
  have q1 := P5.c1
  have q2 := P5.c2
  have q3 := P5.c3
  have q4 := P5.c4
  have plainEnd : ∀ W' m', Ctx W' B b a len cap m' → m' ≤ m + 10 → w.grownBy W' (some b) → PieceAns f at' cs n B b len cap m a w (.returned (.slice (some ⟨W'.heap.size, 0, none⟩) 1 1)) (W'.alloc (.cells #[.int .i64 22, .int .i64 ra, .int .i64 rb, .int .i64 0, .int .i64 ((v : Int) - 8)] 39)) :=
    fun W' m' hC hm' hG => piece_new [⟨22, ra, rb, 0, (v : Int) - 8⟩] rfl (by simp) (by simp) (body1 (HP.out _ _)) hC hm' hG 1 rfl
  have HE : Hid (∀ W' m', Ctx W' B b a len cap m' → m' ≤ m + 10 → w.grownBy W' (some b) → PieceAns f at' cs n B b len cap m a w (.returned (.slice (some ⟨W'.heap.size, 0, none⟩) 1 1)) (W'.alloc (.cells #[.int .i64 22, .int .i64 ra, .int .i64 rb, .int .i64 0, .int .i64 ((v : Int) - 8)] 39))) := plainEnd
  clear plainEnd
  rcases (show y = 0 ∨ y = 1 ∨ (y = 2 ∨ y = 3) ∨ y = 4 ∨ (y = 5 ∨ y = 6) ∨ y = 7 ∨ y = 8 ∨ y = 9 ∨ y = 10 by omega) with rfl | rfl | hy23 | rfl | hy56 | rfl | rfl | rfl | rfl
  · go_wp2_with fail
    refine (next_small B b len cap _ 10 a _ c5 (by omega) (by omega) (by omega)).mono ?_
    rintro e w6 ⟨u, hu, rfl, c6, g6⟩
    have hu1 : (u : Int) < 10 := by omega
    have G6 := grownBy_trans G5 g6
    clear g6 G5 I5 D5 HE q0 q1 q2 q3 q4
    go_wp2
    go_ret
    exact piece_new [⟨31 + (u : Int), ra, rb, rc, 0⟩] rfl (by simp) (by simp) (body1 (loc_rr _ _ _ _ (by omega) (by omega) (by omega) (by omega))) c6 (by omega) G6 1 rfl
  · go_wp2_with fail
    refine (next_small B b len cap _ 13 a _ c5 (by omega) (by omega) (by omega)).mono ?_
    rintro e w6 ⟨u, hu, rfl, c6, g6⟩
    have hu1 : (u : Int) < 13 := by omega
    have G6 := grownBy_trans G5 g6
    clear g6 G5 I5 D5 HE q0 q1 q2 q3 q4
    go_wp2
    go_ret
    exact piece_new [⟨50 + (u : Int), ra, rb, rc, 0⟩] rfl (by simp) (by simp) (body1 (loc_rr _ _ _ _ (by omega) (by omega) (by omega) (by omega))) c6 (by omega) G6 1 rfl
  · by_cases hl : ds.length = 0
    · rcases hy23 with rfl | rfl
      all_goals
        clear I5 D5
        go_wp2
        go_ret
        exact HE.out _ _ c5 (by omega) G5
    · rcases D5.2 with hd0 | ⟨dc, dO, rfl, hdc, hdb, hdat⟩
      · exact absurd hd0 hl
      have hdl := hA.dl
      have hlp : 0 < ds.length := by omega
      rcases hy23 with rfl | rfl
      all_goals
        go_wp2_with fail
        refine (next_any B b len cap _ ds.length a _ c5 (by omega) (by omega) (by omega)).mono ?_
        rintro e w6 ⟨u, hu, rfl, c6, g6⟩
        have hu1 : (u : Int) < ds.length := by omega
        obtain ⟨d, hd⟩ : ∃ d, ds[u]? = some d := ⟨ds[u], List.getElem?_eq_getElem hu⟩
        obtain ⟨d0, d1, d2⟩ := hA.datas d (List.mem_of_getElem? hd)
        have hcell : w6.cell? ⟨dc, dO + u, none⟩ = some (.int .i64 d) := (World.cell?_of_block (a := ⟨dc, dO + u, none⟩) (g6.block dc (by have := D5.1; omega) (by intro e; injection e; omega))).trans (hdat u d hd)
        have G6 := grownBy_trans G5 g6
        have t1 : d.tdiv 4096 = d / 4096 := Int.tdiv_eq_ediv_of_nonneg d0
        have t2 : d.tmod 4096 = d % 4096 := Int.tmod_eq_emod_of_nonneg d0
        clear g6 G5 I5 D5 HE q0 q1 q2 q3 q4 hdat
        go_wp2
        go_ret
        exact piece_new [⟨1, 13, 0, 0, d / 4096 * 4096⟩, ⟨14, ra, 13, 0, d % 4096⟩, ⟨22, ra, ra, 0, 1⟩, ⟨21, 0, 13, ra, d % 4096⟩] rfl (by simp) (by simp) (body4 (loc_lui _ _ (by omega) (by omega)) (loc_ld _ _ _ (by omega) (by omega) (by omega) (by omega)) (loc_addi _ _ _ (by omega) (by omega) (by omega)) (loc_sd _ _ _ (by omega) (by omega) (by omega) (by omega))) c6 (by omega) G6 4 rfl
  · by_cases hf32 : 32 ≤ f
    · obtain ⟨N, hN⟩ : ∃ N : Nat, f / 8 - 1 = (N : Int) := ⟨(f / 8 - 1).toNat, by omega⟩
      have t1 : f.tdiv 8 = f / 8 := Int.tdiv_eq_ediv_of_nonneg (by omega)
      go_wp2_with fail
      refine (next_small B b len cap _ N a _ c5 (by omega) (by omega) (by omega)).mono ?_
      rintro e w6 ⟨u, hu, rfl, c6, g6⟩
      have hu1 : 8 * (u : Int) ≤ f - 16 := by omega
      have hu2 : (u : Int) < 20 := by omega
      have G6 := grownBy_trans G5 g6
      have P6 := P5.grown g6 z5 (by intro e; injection e; omega)
      have r0 := P6.c0
      have r1 := P6.c1
      have r2 := P6.c2
      have r3 := P6.c3
      have r4 := P6.c4
      clear g6 G5 I5 D5 HE q0 q1 q2 q3 q4
      go_wp2
      go_ret
      exact piece_new [⟨21, 0, 2, rb, 8 * (u : Int)⟩, ⟨22, ra, rb, 0, (v : Int) - 8⟩, ⟨14, rc, 2, 0, 8 * (u : Int)⟩] rfl (by simp) (by simp) (body3 (loc_sd _ _ _ (by omega) (by omega) (by omega) (by omega)) (HP.out _ _) (loc_ld _ _ _ (by omega) (by omega) (by omega) (by omega))) c6 (by omega) G6 3 rfl
    · clear I5 D5
      go_wp2
      go_ret
      exact HE.out _ _ c5 (by omega) G5
  · by_cases hl : cs.length = 0
    · rcases hy56 with rfl | rfl
      all_goals
        clear I5 D5
        go_wp2
        go_ret
        exact HE.out _ _ c5 (by omega) G5
    · rcases I5.2 with hd0 | ⟨dc, dO, rfl, hdc, hdb, hdat⟩
      · exact absurd hd0 hl
      have hdl := hA.cl
      have hlp : 0 < cs.length := by omega
      obtain ⟨A0, A1, A2⟩ := hA.at0
      rcases hy56 with rfl | rfl
      all_goals
        go_wp2_with fail
        refine (next_any B b len cap _ cs.length a _ c5 (by omega) (by omega) (by omega)).mono ?_
        rintro e w6 ⟨u, hu, rfl, c6, g6⟩
        have hu1 : (u : Int) < cs.length := by omega
        obtain ⟨d, hd⟩ : ∃ d, cs[u]? = some d := ⟨cs[u], List.getElem?_eq_getElem hu⟩
        have hdm := List.mem_of_getElem? hd
        obtain ⟨d0, d1, d2⟩ := hA.calls d hdm
        have hcell : w6.cell? ⟨dc, dO + u, none⟩ = some (.int .i64 d) := (World.cell?_of_block (a := ⟨dc, dO + u, none⟩) (g6.block dc (by have := I5.1; omega) (by intro e; injection e; omega))).trans (hdat u d hd)
        have G6 := grownBy_trans G5 g6
        clear g6 G5 I5 D5 HE q0 q1 q2 q3 q4 hdat
        go_wp2
        go_ret
        exact piece_new [⟨3, 1, 0, 0, d - at' - 4 * (n : Int)⟩] rfl (by simp) (by simp) (body1 (loc_jal d _ hdm (by omega) (by omega))) c6 (by omega) G6 1 rfl
  · clear I5 D5 HE q0 q1 q2 q3 q4
    go_wp2
    go_ret
    exact piece_new [⟨22, 17, 0, 0, 3⟩, ⟨63, 0, 0, 0, 0⟩] rfl (by simp) (by simp) (body2 (loc_addi _ _ _ (by omega) (by omega) (by omega)) loc_ec) c5 (by omega) G5 2 rfl
  · go_wp2_with fail
    have P5d := five_drew P5
    have c5d := c5.drew
    have z5d : P < w5.drew.heap.size := z5
    have G5d := grownBy_drew G5
    have hne : some P ≠ some b := by intro e; injection e; omega
    go_region_held3 (fun w' => w'.cell? ⟨P, 0, none⟩ = some (.int .i64 22) ∧ w'.cell? ⟨P, 1, none⟩ = some (.int .i64 ra) ∧ w'.cell? ⟨P, 2, none⟩ = some (.int .i64 rb) ∧ w'.cell? ⟨P, 3, none⟩ = some (.int .i64 0) ∧ w'.cell? ⟨P, 4, none⟩ = some (.int .i64 ((v : Int) - 8))) (go_keep) (first | (go_at_call 20; refine (next_small B b len cap _ 6 a _ c5d (by omega) (by omega) (by omega)).mono ?_; rintro e w6 ⟨u, hu, rfl, c6, g6⟩; have hu1 : (u : Int) < 6 := (by omega); have ew := wrap_i64_in (5 + (u : Int)) (by omega) (by omega); have P6 := P5d.grown g6 z5d hne; have r0 := P6.c0; have r1 := P6.c1; have r2 := P6.c2; have r3 := P6.c3; have r4 := P6.c4))
    all_goals
      have G6 := grownBy_trans G5d g6
      clear g6 G5 G5d I5 D5 HE P5 P5d P6 c5 c5d
      go_wp2
      go_ret
      have hbd : Body f at' cs n [⟨5 + (u : Int), 0, ra, rb, 8⟩, ⟨22, ra, rb, 0, (v : Int) - 8⟩] := body2 (loc_br _ _ _ _ (by omega) (by omega) (by omega) (.inl rfl) (by omega)) (HP.out _ _)
      first
        | exact piece_new [⟨5 + (u : Int), 0, ra, rb, 8⟩, ⟨22, ra, rb, 0, (v : Int) - 8⟩] rfl (by simp) (by simp) hbd c6 (by omega) G6 2 rfl
        | exact piece_new [⟨5 + (u : Int), 0, ra, rb, 8⟩, ⟨22, ra, rb, 0, (v : Int) - 8⟩] rfl (by simp) (by simp) hbd c6.drew (by omega) (grownBy_drew G6) 2 rfl
  · go_wp2_with fail
    have P5d := five_drew P5
    have c5d := c5.drew
    have z5d : P < w5.drew.heap.size := z5
    have G5d := grownBy_drew G5
    have hne : some P ≠ some b := by intro e; injection e; omega
    go_region_held3 (fun w' => w'.cell? ⟨P, 0, none⟩ = some (.int .i64 22) ∧ w'.cell? ⟨P, 1, none⟩ = some (.int .i64 ra) ∧ w'.cell? ⟨P, 2, none⟩ = some (.int .i64 rb) ∧ w'.cell? ⟨P, 3, none⟩ = some (.int .i64 0) ∧ w'.cell? ⟨P, 4, none⟩ = some (.int .i64 ((v : Int) - 8))) (go_keep) (first | (go_at_call 20; refine (next_small B b len cap _ 4 a _ c5d (by omega) (by omega) (by omega)).mono ?_; rintro e w6 ⟨u, hu, rfl, c6, g6⟩; have hu1 : (u : Int) < 4 := (by omega); have ew := wrap_i64_in (1 + (u : Int)) (by omega) (by omega); have P6 := P5d.grown g6 z5d hne; have r0 := P6.c0; have r1 := P6.c1; have r2 := P6.c2; have r3 := P6.c3; have r4 := P6.c4))
    all_goals
      have G6 := grownBy_trans G5d g6
      clear g6 G5 G5d I5 D5 HE P5 P5d P6 c5 c5d
      go_wp2
      go_ret
      have hbd : Body f at' cs n [⟨22, 9, 0, 0, 1 + (u : Int)⟩, ⟨22, ra, rb, 0, (v : Int) - 8⟩, ⟨22, 9, 9, 0, -1⟩, ⟨6, 0, 9, 0, -8⟩] := body4 (loc_addi _ _ _ (by omega) (by omega) (by omega)) (HP.out _ _) (loc_addi _ _ _ (by omega) (by omega) (by omega)) (loc_back _ _ _ (by omega) (by omega) (by omega) (by omega) (by omega))
      first
        | exact piece_new [⟨22, 9, 0, 0, 1 + (u : Int)⟩, ⟨22, ra, rb, 0, (v : Int) - 8⟩, ⟨22, 9, 9, 0, -1⟩, ⟨6, 0, 9, 0, -8⟩] rfl (by simp) (by simp) hbd c6 (by omega) G6 4 rfl
        | exact piece_new [⟨22, 9, 0, 0, 1 + (u : Int)⟩, ⟨22, ra, rb, 0, (v : Int) - 8⟩, ⟨22, 9, 9, 0, -1⟩, ⟨6, 0, 9, 0, -8⟩] rfl (by simp) (by simp) hbd c6.drew (by omega) (grownBy_drew G6) 4 rfl
  · go_wp2_with fail
    refine (next_small B b len cap _ 12 a _ c5 (by omega) (by omega) (by omega)).mono ?_
    rintro e w6 ⟨u, hu, rfl, c6, g6⟩
    have hu1 : (u : Int) < 12 := by omega
    have G6 := grownBy_trans G5 g6
    clear g6 G5 I5 D5 HE q0 q1 q2 q3 q4 c5
    go_wp2_with fail
    refine (next_small B b len cap _ 5 a _ c6 (by omega) (by omega) (by omega)).mono ?_
    rintro e w7 ⟨u7, hu7, rfl, c7, g7⟩
    have hu71 : (u7 : Int) < 5 := by omega
    have G7 := grownBy_trans G6 g7
    clear g7 G6 c6
    go_wp2_with fail
    refine (next_small B b len cap _ 4 a _ c7 (by omega) (by omega) (by omega)).mono ?_
    rintro e w8 ⟨u8, hu8, rfl, c8, g8⟩
    have hu81 : (u8 : Int) < 4 := by omega
    have G8 := grownBy_trans G7 g8
    clear g8 G7 c7
    go_wp2
    go_ret
    exact piece_new [⟨22, 17, 0, 0, 1 + (u : Int)⟩, ⟨22, 10, 0, 0, (u7 : Int)⟩, ⟨22, 11, 0, 0, (u8 : Int)⟩, ⟨63, 0, 0, 0, 0⟩] rfl (by simp) (by simp) (body4 (loc_addi _ _ _ (by omega) (by omega) (by omega)) (loc_addi _ _ _ (by omega) (by omega) (by omega)) (loc_addi _ _ _ (by omega) (by omega) (by omega)) loc_ec) c8 (by omega) G8 4 rfl
end Go.Proofs.YtiandbhcjecphaaGreatDoor.Fu

namespace Go.Proofs.YtiandbhcjecphaaGreatDoor.Fu
open Go Go.RowKit
set_option linter.unusedVariables false

theorem Tryz.info_insF : (Tryz.prog.info? 39).map (fun i => (i.zero, i.size, i.bytes)) = some (some (.agg #[.int .i64 0, .int .i64 0, .int .i64 0, .int .i64 0, .int .i64 0]), 5, 40) := by kernel_rfl

theorem pro_own (f : Int) (w : World) (h : frB f = true) :
    Calls Tryz.prog 39 #[.int .i64 f] w fun e w' => e = .returned (.slice (some ⟨w.heap.size, 0, none⟩) 2 2) ∧ w'.ownsRow w.heap.size 39 5 (.slice (some ⟨w.heap.size, 0, none⟩) 2 2) 2 (insV (proL f)) ∧ Below w.heap.size w w' ∧ ∀ r, w.grownBy w' r := by
  obtain ⟨h0, h1, hw⟩ := frB_bd h
  go_enter Tryz.func39, Tryz.ntmps39
  go_wp2
  go_ret
  exact ⟨rfl, own_new w w.heap.size _ _ (proL f) rfl (Nat.le_refl _) (by simp [proL]), grown1 _ _, fun r => World.grownBy_alloc w _ r⟩
theorem epi_new (f : Int) (w : World) (h : frB f = true) :
    Calls Tryz.prog 41 #[.int .i64 f] w fun e w' => e = .returned (.slice (some ⟨w.heap.size, 0, none⟩) 3 3) ∧ (∀ j u, (insV (epiL f))[j]? = some u → w'.cell? ⟨w.heap.size, j, none⟩ = some u) ∧ ∀ r, w.grownBy w' r := by
  obtain ⟨h0, h1, hw⟩ := frB_bd h
  go_enter Tryz.func41, Tryz.ntmps41
  go_wp2
  go_ret
  exact ⟨rfl, cells_new w _ _ (epiL f) rfl, fun r => World.grownBy_alloc w _ r⟩
theorem add_at (g j : Nat) : (⟨g, 0, none⟩ : Addr).add j = ⟨g, j, none⟩ := by unfold Addr.add; split <;> simp_all

/-- The function so far, while it is drawn. -/
structure SoFar (f at' : Int) (cs ds : List Int) (w0 : World) (B b len cap m : Nat) (a pc pd : Option Addr) (wr : World) (v : Value) (Bd : List I5) (k : Nat) : Prop where
  own : wr.ownsRow w0.heap.size 39 5 v (Bd.length + 2) (insV (proL f ++ Bd))
  body : Body f at' cs 2 Bd
  few : Bd.length ≤ 51
  ctx : Ctx wr B b a len cap (m + 10 * k)
  grown : w0.grownBy wr (some b)
  some1 : 0 < k → 0 < Bd.length
  calls : Ints wr w0.heap.size b pc cs
  datas : Ints wr w0.heap.size b pd ds

/-- What the draw of a function answers. -/
def FunAns (f at' : Int) (cs : List Int) (pieces : Nat) (B b len cap m : Nat) (a : Option Addr) (w : World) (e : Ending) (w' : World) : Prop :=
  ∃ (g c : Nat) (Bd : List I5), e = .returned (.slice (some ⟨g, 0, none⟩) (Bd.length + 5) c) ∧ w'.ownsRow w.heap.size 39 5 (.slice (some ⟨g, 0, none⟩) (Bd.length + 5) c) (Bd.length + 5) (insV (Fun f Bd)) ∧ Body f at' cs 2 Bd ∧ Bd.length ≤ 51 ∧ (0 < pieces → 0 < Bd.length) ∧ Ctx w' B b a len cap (m + 10 * pieces) ∧ w.grownBy w' (some b)

set_option maxRecDepth 100000 in
set_option maxHeartbeats 8000000 in
theorem function_ctx (B b len cap m pieces : Nat) (at' f : Int) (cs ds : List Int) (pc pd : Option Addr) (cc cd : Nat) (a : Option Addr) (w : World) (h : Ctx w B b a len cap m) (hm : m ≤ 70000) (hp : pieces ≤ 60) (hf : frB f = true) (hA : Among at' cs ds) (hc : Ints w w.heap.size b pc cs) (hd : Ints w w.heap.size b pd ds) :
    Calls Tryz.prog 19 #[.pointer (some ⟨b, 0, none⟩), .int .i64 at', .int .i64 f, .int .i64 pieces, .slice pc cs.length cc, .slice pd ds.length cd] w fun e w' => FunAns f at' cs pieces B b len cap m a w e w' := by
  obtain ⟨i0, hi, hz0, hz1, hz2⟩ := info_parts Tryz.info_insF
  have hbw := h.bw
  go_enter Tryz.func19, Tryz.ntmps19
  go_wp2_with fail
  refine (pro_own f w hf).mono ?_
  rintro e w1 ⟨rfl, own1, bel1, gr1⟩
  have S1 : Hid (SoFar f at' cs ds w B b len cap m a pc pd w1 (.slice (some ⟨w.heap.size, 0, none⟩) 2 2) [] 0) :=
    ⟨own1, Body.nil, by simp, h.below bel1, gr1 _, fun h => absurd h (Nat.lt_irrefl _), hc.grown (gr1 _), hd.grown (gr1 _)⟩
  clear own1 bel1 gr1 h hc hd
  go_wp2
  go_loopw [13, 14] (fun v i wr => ∃ (k : Nat) (Bd : List I5), k ≤ pieces ∧ i = .int .i64 k ∧ Hid (SoFar f at' cs ds w B b len cap m a pc pd wr v Bd k)) (fun _ i _ => pieces - (intOf i).toNat)
  case atStart => exact ⟨0, [], Nat.zero_le _, rfl, S1⟩
  case round =>
    obtain ⟨k, Bd, hk, rfl, S⟩ := hrel
    clear S1
    obtain ⟨g, c, rfl, hg0, hgl⟩ := S.out.own.form (by omega)
    have hfew := S.out.few
    by_cases hgo : k < pieces ∧ Bd.length + 2 < 50
    · obtain ⟨hkp, hl50⟩ := hgo
      have hl50' : ((Bd.length + 2 : Nat) : Int) < 50 := by omega
      go_wp2_with fail
      refine (body_ctx w.heap.size B b len cap _ (Bd.length + 2) at' f cs ds pc pd cc cd a _ S.out.ctx (by omega) (by omega) (by omega) hf hA S.out.calls S.out.datas).mono ?_
      rintro e w2 ⟨q, L, rfl, hl1, hl4, hbd, hcell, hctx, hgr⟩
      have own2 := S.out.own.kept hgr (.inr (by simp [Value.ownBlock]; omega))
      have G2 := grownBy_trans S.out.grown hgr
      have C2 := S.out.calls.grown hgr
      have D2 := S.out.datas.grown hgr
      have hB2 : Body f at' cs 2 (Bd ++ L) := S.out.body.append (by rw [Nat.add_comm]; exact hbd)
      have hcell' : ∀ j u, (insV L)[j]? = some u → w2.cell? ((⟨q, 0, none⟩ : Addr).add j) = some u := fun j u hu => by rw [add_at]; exact hcell j u hu
      have hs2 : w.heap.size ≤ w2.heap.size := G2.size
      have HB : Hid (Body f at' cs 2 (Bd ++ L)) := hB2
      clear hcell hbd hB2 S
      go_wp2_with (at_builtin; refine wpList_append_lies _ rfl _ _ 24 rfl w.heap.size 39 i0 _ 5 40 Tryz.underlying24 hi hz0 hz1 hz2 rfl (by omega) _ _ _ rfl own2 ⟨q, 0, none⟩ L.length L.length (insV L) rfl (insV_len L) hcell' (insV_one L) (by omega) (by unfold maxLen; omega) (by omega) hs2 _ rfl ?_; intro g' c' w3 own3 gr3 hat3 hlt3)
      have hne : ∀ i, (Value.slice (some ⟨g, 0, none⟩) (Bd.length + 2) c).ownBlock = some i → w.heap.size ≤ i := fun i e => by simp [Value.ownBlock] at e; omega
      have gr3' : w2.grownBy w3 (some g) := gr3
      go_roundw
      case rel =>
        refine ⟨k + 1, Bd ++ L, by omega, by go_num, ?_⟩
        refine ⟨?_, HB.out, by rw [List.length_append]; omega, ?_, grownBy_own G2 gr3 hne, fun _ => by rw [List.length_append]; omega, ?_, ?_⟩
        · rw [List.length_append, show Bd.length + L.length + 2 = Bd.length + 2 + L.length from by omega, ← List.append_assoc, insV_append]
          exact own3
        · exact (ctx_far hctx gr3' (by omega)).mono (by omega)
        · exact C2.far gr3' hg0
        · exact D2.far gr3' hg0
      case measure => simp [intOf]; omega
    · have hs3 : w.heap.size ≤ wr.heap.size := S.out.grown.size
      have hgo' : ¬ k < pieces ∨ (k < pieces ∧ 50 ≤ Bd.length + 2) := by omega
      clear hgo
      rcases hgo' with hkp | ⟨hkp, h50⟩
      all_goals
        go_wp2_with fail
        refine (epi_new f _ hf).mono ?_
        rintro e w2 ⟨rfl, hcell, hgr⟩
        have own2 := S.out.own.kept (hgr none) (.inr (by simp [Value.ownBlock]))
        have G2 := grownBy_trans S.out.grown (hgr (some b))
        have C2 := ctx_far S.out.ctx (hgr (some g)) (by omega)
        have hcell' : ∀ j u, (insV (epiL f))[j]? = some u → w2.cell? ((⟨wr.heap.size, 0, none⟩ : Addr).add j) = some u := fun j u hu => by rw [add_at]; exact hcell j u hu
        have hs2 : w.heap.size ≤ w2.heap.size := G2.size
        have HB : Hid (Body f at' cs 2 Bd) := S.out.body
        have h1 : 0 < pieces → 0 < Bd.length := fun hp => by
          by_cases e : k < pieces
          · omega
          · exact S.out.some1 (by omega)
        clear hcell hgr S
        go_wp2_with (at_builtin; refine wpList_append_lies _ rfl _ _ 24 rfl w.heap.size 39 i0 _ 5 40 Tryz.underlying24 hi hz0 hz1 hz2 rfl (by omega) _ _ _ rfl own2 ⟨wr.heap.size, 0, none⟩ 3 3 (insV (epiL f)) rfl rfl hcell' (insV_one _) (by omega) (by unfold maxLen; omega) (by omega) hs2 _ rfl ?_; intro g' c' w3 own3 gr3 hat3 hlt3)
        have hne : ∀ i, (Value.slice (some ⟨g, 0, none⟩) (Bd.length + 2) c).ownBlock = some i → w.heap.size ≤ i := fun i e => by simp [Value.ownBlock] at e; omega
        have gr3' : w2.grownBy w3 (some g) := gr3
        have own4 : w3.ownsRow w.heap.size 39 5 (.slice (some ⟨g', 0, none⟩) (Bd.length + 5) c') (Bd.length + 5) (insV (Fun f Bd)) := by
          unfold Fun
          rw [insV_append]
          exact own3
        clear own3
        go_wp2
        go_ret
        exact ⟨g', c', Bd, rfl, own4, HB.out, hfew, h1, (ctx_far C2 gr3' (by omega)).mono (by omega), grownBy_own G2 gr3 hne⟩
end Go.Proofs.YtiandbhcjecphaaGreatDoor.Fu

namespace Go.Proofs.YtiandbhcjecphaaGreatDoor
open Go.RowKit
set_option linter.unusedVariables false

theorem bytes_of_row {w : World} {a : Option Addr} {len cap : Nat} {zs : List Int}
    (h : (a = none ∧ len = 0 ∧ cap = 0 ∧ zs = []) ∨ ∃ x, a = some x ∧ len ≤ cap ∧ cap ≤ maxLen ∧ zs.length = cap ∧ (∀ i, i < zs.length → w.cell? (x.add i) = some (.int .u8 (zs.getD i 0))) ∧ ∀ n ∈ zs, (Lit.int .u8 n).wf = true) :
    Bytes w w.heap.size a len := by
  rcases h with ⟨_, rfl, _, _⟩ | ⟨x, rfl, hl, hm, hz, hcell, hwz⟩
  · exact ⟨Nat.zero_le _, fun i hi => absurd hi (Nat.not_lt_zero _)⟩
  · refine ⟨by omega, fun i hi => ?_⟩
    have hi' : i < zs.length := by omega
    have hc := hcell i hi'
    obtain ⟨b, off, spot⟩ := x
    have hspot : spot = none := by
      have h0 := hcell 0 (by omega)
      simpa [Addr.add] using World.cell?_spot h0
    subst hspot
    have hc' : w.cell? ⟨b, off + i, none⟩ = some (.int .u8 (zs.getD i 0)) := by
      rw [← hc]
      by_cases e : i = 0
      · subst e; simp [Addr.add]
      · simp [Addr.add, e]
    have hmem : zs.getD i 0 ∈ zs := by
      have : zs.getD i 0 = zs[i] := by simp [hi']
      rw [this]
      exact List.getElem_mem _
    have hb := bounds_u8 (hwz _ hmem)
    exact ⟨b, off, zs.getD i 0, rfl, World.block_lt_of_cell? w _ hc', hb.1, by have := hb.2; omega, hc'⟩
end Go.Proofs.YtiandbhcjecphaaGreatDoor

namespace Go.Proofs.YtiandbhcjecphaaGreatDoor.Fu
open Go Go.RowKit
set_option linter.unusedVariables false

theorem below_of {w w' : World} {b B : Nat} (h : w.grownBy w' (some b)) (hb : B ≤ b) (hs : B ≤ w.heap.size) : Below B w w' := (Below.refl B w).grown h hs (fun k e => by injection e with e; omega)

theorem frameDrawn_any (len cap B : Nat) (a : Option Addr) (w : World) (hB : Bytes w B a len) (hb : B ≤ w.heap.size) :
    Calls Tryz.prog 4 #[.slice a len cap] w fun e w' => ∃ f : Int, frB f = true ∧ e = .returned (.int .i64 f) ∧ Below w.heap.size w w' := by
  go_enter Tryz.func4, Tryz.ntmps4
  go_wp2_with fail
  refine (source_any len cap a _ hB.1).mono ?_
  rintro e w1 ⟨sd, rfl, hs, hbel, hsz⟩
  go_wp2_with fail
  refine (frame_ctx B _ len cap 0 a _ ⟨⟨0, sd, by omega, hs⟩, hB.below (hbel.mono hb), hb, hsz⟩ (by omega)).mono ?_
  rintro e w2 ⟨f, hf, rfl, _, hg⟩
  go_wp2
  go_ret
  exact ⟨f, hf, rfl, hbel.trans (below_of hg (Nat.le_refl _) hbel.size)⟩

/-- What BodyDrawn answers. -/
def BodyAns (f : Int) (w : World) (e : Ending) (w' : World) : Prop :=
  ∃ (g c : Nat) (Bd : List I5), e = .returned (.slice (some ⟨g, 0, none⟩) Bd.length c) ∧ w'.ownsRow w.heap.size 39 5 (.slice (some ⟨g, 0, none⟩) Bd.length c) Bd.length (insV Bd) ∧ Body f 8192 [] 2 Bd ∧ 1 ≤ Bd.length ∧ Bd.length ≤ 51 ∧ Below w.heap.size w w'
theorem fun_cells (f : Int) (Bd : List I5) (j : Nat) (u : Value) (hu : (insV Bd)[j]? = some u) : (insV (Fun f Bd))[10 + j]? = some u := by
  have h5 := insV_len (proL f)
  have e2 : (proL f).length = 2 := rfl
  have hj : j < (insV Bd).length := (List.getElem?_eq_some_iff.1 hu).1
  unfold Fun
  rw [insV_append, insV_append, List.append_assoc, List.getElem?_append_right (by omega), List.getElem?_append_left (by omega), h5, e2]
  rw [show 10 + j - 2 * 5 = j from by omega]
  exact hu

set_option maxRecDepth 100000 in
set_option maxHeartbeats 8000000 in
theorem bodyDrawn_any (len cap B : Nat) (a : Option Addr) (f : Int) (w : World) (hB : Bytes w B a len) (hb : B ≤ w.heap.size) (hf : frB f = true) :
    Calls Tryz.prog 7 #[.slice a len cap, .int .i64 f] w fun e w' => BodyAns f w e w' := by
  obtain ⟨i0, hi, hz0, hz1, hz2⟩ := info_parts Tryz.info_insF
  go_enter Tryz.func7, Tryz.ntmps7
  go_wp2_with fail
  refine (source_any len cap a _ hB.1).mono ?_
  rintro e w1 ⟨sd, rfl, hs, hbel, hsz⟩
  go_wp2_with fail
  refine (next_small B _ len cap 0 5 a _ ⟨⟨0, sd, by omega, hs⟩, hB.below (hbel.mono hb), hb, hsz⟩ (by omega) (by omega) (by omega)).mono ?_
  rintro e w2 ⟨u, hu, rfl, c2, g2⟩
  have hu1 : (u : Int) < 5 := by omega
  obtain ⟨p, hp⟩ : ∃ p : Nat, 1 + (u : Int) = (p : Int) := ⟨u + 1, by omega⟩
  have s2 : w.heap.size < w2.heap.size := Nat.lt_of_lt_of_le hsz g2.size
  go_wp2_with fail
  refine (function_ctx B w.heap.size len cap _ p 8192 f [] [] none none 0 0 a w2 c2 (by omega) (by omega) hf ⟨⟨by omega, by omega, by omega⟩, (fun c h => by cases h), (fun c h => by cases h), by simp, by simp⟩ ⟨Nat.le_refl _, .inl rfl⟩ ⟨Nat.le_refl _, .inl rfl⟩).mono ?_
  rintro e w3 ⟨g, c, Bd, rfl, own, hbd, hle, hpos, _, g3⟩
  have hlp : 1 ≤ Bd.length := hpos (by omega)
  obtain ⟨hg0, hg1⟩ := own.lt g rfl
  have bel3 : Below w.heap.size w w3 := (hbel.trans (below_of g2 (Nat.le_refl _) hbel.size)).trans (below_of g3 (Nat.le_refl _) (by omega))
  have cells : ∀ j u, (insV Bd)[j]? = some u → (w3.alloc (.cells #[] 39)).cell? ((⟨g, 10, none⟩ : Addr).add j) = some u := fun j u hu => by
    have h1 := own.cells rfl (10 + j) u (fun_cells f Bd j u hu)
    rw [add_at] at h1
    have e : (⟨g, 10, none⟩ : Addr).add j = ⟨g, 10 + j, none⟩ := by unfold Addr.add; split <;> simp_all
    rw [e, World.cell?_of_block (a := ⟨g, 10 + j, none⟩) ((World.grownBy_alloc w3 _ none).block g hg1 (by simp))]
    exact h1
  have hcap : Bd.length + 5 ≤ c := by
    rcases own.2 with ⟨h, _⟩ | ⟨g', cap', cur, h, _, _, h', _⟩
    · cases h
    · obtain ⟨_, rfl⟩ : g = g' ∧ c = cap' := by simpa using h
      exact h'
  have HB : Hid (Body f 8192 [] 2 Bd) := hbd
  clear own hbd hs hbel g2 g3 c2 hpos
  have owne : (w3.alloc (.cells #[] 39)).ownsRow w.heap.size 39 5 (.slice (some ⟨w3.heap.size, 0, none⟩) 0 0) 0 [] := World.ownsRow_made w3 #[] 0 (by omega) (by unfold maxLen; omega) rfl
  have hs3 : w.heap.size ≤ (w3.alloc (.cells #[] 39)).heap.size := by simp; omega
  have hlen : ((Bd.length + 5 : Nat) : Int) - 3 - 2 = (Bd.length : Int) := by omega
  go_wp2_with (at_builtin; refine wpList_append_lies _ rfl (.tmp 15) (.tmp 20) 24 rfl w.heap.size 39 i0 _ 5 40 Tryz.underlying24 hi hz0 hz1 hz2 rfl (by omega) _ _ _ rfl owne ⟨g, 10, none⟩ Bd.length (c - 2) (insV Bd) rfl (insV_len Bd) cells (insV_one Bd) (by omega) (by unfold maxLen; omega) (by omega) hs3 _ rfl ?_; intro g' c' w4 own4 gr4 hat4 hlt4)
  have sz3 := bel3.size
  have gr4' : (w3.alloc (.cells #[] 39)).grownBy w4 (some w3.heap.size) := gr4
  have bel4 : Below w.heap.size w w4 := (bel3.alloc bel3.size _).grown gr4' hs3 (fun k e => by injection e with e; omega)
  have own5 : w4.ownsRow w.heap.size 39 5 (.slice (some ⟨g', 0, none⟩) Bd.length c') Bd.length (insV Bd) := by
    have h := own4
    rw [Nat.zero_add, List.nil_append] at h
    exact h
  clear own4
  go_wp2
  go_ret
  exact ⟨g', c', Bd, rfl, own5, HB.out, hlp, hle, bel4⟩
end Go.Proofs.YtiandbhcjecphaaGreatDoor.Fu

namespace Go.Proofs.YtiandbhcjecphaaGreatDoor
open Go.RowKit
set_option linter.unusedVariables false

theorem Tryz.info_u8s : (Tryz.prog.info? 5).map (fun i => (i.zero, i.size, i.bytes)) = some (some (.int .u8 0), 1, 1) := by kernel_rfl

theorem wrap_u8_byte (c : UInt8) : IntKind.u8.wrap (c.toNat : Int) = (c.toNat : Int) := by
  have := c.toNat_lt
  show (c.toNat : Int) % 256 = _
  omega

theorem Buf.keptBy {w w' : World} {B b E : Nat} {v : Value} {l : List UInt8} (h : Buf w B E v l) (hg : w.grownBy w' (some b)) (hb : b < B) : Buf w' B E v l :=
  World.ownsRow.kept h hg (by
    by_cases hv : v.ownBlock = none
    · exact .inl hv
    · right; intro e
      have := (World.ownsRow.lt h b e).1
      omega)

end Go.Proofs.YtiandbhcjecphaaGreatDoor

namespace Go.Proofs.YtiandbhcjecphaaGreatDoor
open Go.RowKit
set_option linter.unusedVariables false

/-- '+' on texts that are not too long. -/
theorem add_any (a b : ByteArray) (h : a.size + b.size ≤ 1000000) : ∀ w : World, (Op.stringOp .add a b).run Tryz.prog w = .ok (.string (a ++ b)) w :=
  fun w => run_string_add_sum w a b (by omega)

/-- 'string([]byte{x})', the slice laid just now. -/
theorem conv_one (w : World) (x : UInt8) : (convert 22 9 (.slice (some ⟨w.heap.size, 0, none⟩) 1 1)).run Tryz.prog (w.alloc (.cells #[.int .u8 (x.toNat : Int)] 5)) = .ok (.string ⟨#[x]⟩) (w.alloc (.cells #[.int .u8 (x.toNat : Int)] 5)) :=
  run_convert_bytes_back (w.alloc (.cells #[.int .u8 (x.toNat : Int)] 5)) 22 9 5 ⟨w.heap.size, 0, none⟩ 1 [x] Tryz.underlying22 Tryz.underlying5 Tryz.underlying9 (fun j hj => by
    obtain rfl : j = 0 := by simp at hj; omega
    exact World.news_of_block (cs := #[.int .u8 (x.toNat : Int)]) (t := 5) (fr := (0, 0)) (heap_alloc_new w _) 0 _ rfl)
theorem conv_one_drew (w : World) (x : UInt8) : (convert 22 9 (.slice (some ⟨w.heap.size, 0, none⟩) 1 1)).run Tryz.prog (w.alloc (.cells #[.int .u8 (x.toNat : Int)] 5)).drew = .ok (.string ⟨#[x]⟩) (w.alloc (.cells #[.int .u8 (x.toNat : Int)] 5)).drew :=
  run_convert_bytes_back (w.alloc (.cells #[.int .u8 (x.toNat : Int)] 5)).drew 22 9 5 ⟨w.heap.size, 0, none⟩ 1 [x] Tryz.underlying22 Tryz.underlying5 Tryz.underlying9 (fun j hj => by
    obtain rfl : j = 0 := by simp at hj; omega
    exact World.news_of_block (cs := #[.int .u8 (x.toNat : Int)]) (t := 5) (fr := (0, 0)) (heap_alloc_new w _) 0 _ rfl)

end Go.Proofs.YtiandbhcjecphaaGreatDoor

namespace Go.Proofs.YtiandbhcjecphaaGreatDoor.Fu
open Go Go.RowKit
set_option linter.unusedVariables false

theorem x_sizeE : ({ data := #[120] } : ByteArray).size = 1 := rfl
theorem z_sizeE : ({ data := #[0, 0, 0, 0] } : ByteArray).size = 4 := rfl
theorem chance_ctx (B b len cap m n : Nat) (a : Option Addr) (w : World) (h : Ctx w B b a len cap m) (hm : m ≤ 100000) (hn0 : 2 ≤ n) (hn1 : n ≤ 256) :
    Calls Tryz.prog 56 #[.pointer (some ⟨b, 0, none⟩), .int .i64 n] w fun e w' => ∃ q : Bool, e = .returned (.bool q) ∧ Ctx w' B b a len cap (m + 1) ∧ w.grownBy w' (some b) := by
  go_enter Tryz.func56, Tryz.ntmps56
  go_wp2_with fail
  refine (next_small B b len cap m n a w h hm hn0 hn1).mono ?_
  rintro e w1 ⟨v, hv, rfl, hc, hg⟩
  go_wp2
  go_ret
  exact ⟨_, rfl, hc, hg⟩
theorem one_list (w : World) (arr : Array Value) (t : TypeId) (x : I5) (h : arr.toList = insV [x]) : ListAt (w.alloc (.cells arr t)) (some ⟨w.heap.size, 0, none⟩) 1 (rz [x]) := by
  refine .inr ⟨w.heap.size, 0, rfl, by simp, fun i hi => ?_⟩
  have := cells_new w arr t [x] h i _ (insV_at (by simpa using hi))
  rw [Nat.zero_add]
  exact this
/-- The words that a function may be spoiled with. -/
def spW (f u1 u2 u3 : Int) : List I5 := [⟨4, 0, 1, 0, 0⟩, ⟨3, 0, 0, 0, 4 * u1 - 24⟩, ⟨3, 1, 0, 0, 4 * u2⟩, ⟨5, 0, 0, 0, 4 * u3 - 24⟩, ⟨22, 1, 0, 0, 1⟩, ⟨22, 2, 2, 0, f⟩, ⟨14, 5, 2, 0, f - 8⟩, ⟨18, 0, 2, 0, f - 9⟩, ⟨14, 1, 2, 0, f - 8⟩, ⟨20, 0, 2, 0, 2⟩, ⟨3, 3, 0, 0, 0⟩]
theorem spW_right (f u1 u2 u3 : Int) (hf : 16 ≤ f ∧ f ≤ 128) (h1 : 0 ≤ u1 ∧ u1 < 12) (h2 : 0 ≤ u2 ∧ u2 < 9) (h3 : 0 ≤ u3 ∧ u3 < 12) : ∀ x ∈ spW f u1 u2 u3, rt5 x = true := by
  intro x hx
  simp only [spW, List.mem_cons, List.not_mem_nil, or_false] at hx
  rcases hx with rfl | rfl | rfl | rfl | rfl | rfl | rfl | rfl | rfl | rfl | rfl
  · exact right_jr 0 1 0 (by omega) (by omega) (by omega)
  · exact right_jal 0 (4 * u1 - 24) (by omega) (by omega)
  · exact right_jal 1 (4 * u2) (by omega) (by omega)
  · exact right_br 5 0 0 (4 * u3 - 24) (by omega) (by omega) (by omega) (by omega)
  · exact right_22 1 0 1 (by omega) (by omega) (by omega)
  · exact right_22 2 2 f (by omega) (by omega) (by omega)
  · exact right_ld 14 5 2 (f - 8) (by omega) (by omega) (by omega) (by omega)
  · exact right_st 18 2 0 (f - 9) (by omega) (by omega) (by omega) (by omega)
  · exact right_ld 14 1 2 (f - 8) (by omega) (by omega) (by omega) (by omega)
  · exact right_st 20 2 0 2 (by omega) (by omega) (by omega) (by omega)
  · exact right_jal 3 0 (by omega) (by omega)
/-- A row with one instruction put anew. -/
def putR (R : Nat → Int) (i : Nat) (x : I5) (j : Nat) : Int := if i * 5 ≤ j ∧ j < i * 5 + 5 then x.z.getD (j - i * 5) 0 else R j
theorem putR_right {R : Nat → Int} {n i : Nat} {x : I5} (h : ∀ k, k < n → rtB R k = true) (hx : rt5 x = true) : ∀ k, k < n → rtB (putR R i x) k = true := by
  intro k hk
  by_cases e : k = i
  · subst e
    have e0 : putR R k x (k * 5) = x.o := by unfold putR; rw [if_pos (by omega), Nat.sub_self]; rfl
    have e1 : putR R k x (k * 5 + 1) = x.d := by unfold putR; rw [if_pos (by omega), Nat.add_sub_cancel_left]; rfl
    have e2 : putR R k x (k * 5 + 2) = x.a := by unfold putR; rw [if_pos (by omega), Nat.add_sub_cancel_left]; rfl
    have e3 : putR R k x (k * 5 + 3) = x.b := by unfold putR; rw [if_pos (by omega), Nat.add_sub_cancel_left]; rfl
    have e4 : putR R k x (k * 5 + 4) = x.i := by unfold putR; rw [if_pos (by omega), Nat.add_sub_cancel_left]; rfl
    unfold rtB
    rw [e0, e1, e2, e3, e4]
    exact hx
  · have ee : ∀ j, j < 5 → putR R i x (k * 5 + j) = R (k * 5 + j) := fun j hj => by unfold putR; rw [if_neg (by omega)]
    have e0 := ee 0 (by omega)
    rw [Nat.add_zero] at e0
    unfold rtB
    rw [e0, ee 1 (by omega), ee 2 (by omega), ee 3 (by omega), ee 4 (by omega)]
    exact h k hk
/-- The row behind the store. -/
theorem put_list {w : World} {g n i : Nat} {R : Nat → Int} {x : I5} {cur : Array Value} (hl : Lies w g 39 cur) (hc : ∀ j, j < n * 5 → cur[j]? = some (.int .i64 (R j))) (hs : n * 5 ≤ cur.size) (hi : i < n) (new : Array Value)
    (hn : (cur.toList.take (i * 5) ++ (#[.int .i64 x.o, .int .i64 x.d, .int .i64 x.a, .int .i64 x.b, .int .i64 x.i] : Array Value).toList ++ cur.toList.drop (i * 5 + 5)).toArray = new) : ListAt (w.setRow g new) (some ⟨g, 0, none⟩) n (putR R i x) := by
  have hl' := hl.set new
  refine .inr ⟨g, 0, rfl, hl'.lt, fun j hj => ?_⟩
  rw [Nat.zero_add]
  refine hl'.cell ?_
  subst hn
  have hz : cur.toList.length = cur.size := by simp
  rw [List.getElem?_toArray, List.append_assoc]
  unfold putR
  by_cases h0 : j < i * 5
  · rw [List.getElem?_append_left (by rw [List.length_take]; omega), List.getElem?_take, if_pos h0, if_neg (by omega), Array.getElem?_toList]
    exact hc j hj
  · rw [List.getElem?_append_right (by rw [List.length_take]; omega), List.length_take, Nat.min_eq_left (by omega)]
    by_cases h1 : j < i * 5 + 5
    · rw [if_pos (by omega), List.getElem?_append_left (by simp; omega)]
      rcases (show j - i * 5 = 0 ∨ j - i * 5 = 1 ∨ j - i * 5 = 2 ∨ j - i * 5 = 3 ∨ j - i * 5 = 4 by omega) with h | h | h | h | h <;> rw [h] <;> rfl
    · rw [if_neg (by omega), List.getElem?_append_right (by simp; omega), List.getElem?_drop, Array.getElem?_toList]
      have e : i * 5 + 5 + (j - i * 5 - (#[.int .i64 x.o, .int .i64 x.d, .int .i64 x.a, .int .i64 x.b, .int .i64 x.i] : Array Value).toList.length) = j := by simp; omega
      rw [e]
      exact hc j hj

theorem grownBy_setRow (w : World) (g : Nat) (new : Array Value) : w.grownBy (w.setRow g new) (some g) :=
  ⟨rfl, rfl, rfl, by simp, fun k hk hne => setRow_other w g k new (by intro e; exact hne (by rw [e]))⟩
/-- What spoiled answers. -/
def TextAns (B b len cap m : Nat) (a : Option Addr) (w : World) (e : Ending) (w' : World) : Prop :=
  ∃ s : ByteArray, e = .returned (.string s) ∧ s.size ≤ 1000 ∧ Ctx w' B b a len cap (m + 200) ∧ w.grownBy w' (some b)

set_option maxRecDepth 100000 in
set_option maxHeartbeats 40000000 in
theorem spoiled_ctx (B b len cap m : Nat) (at' f : Int) (cs : List Int) (pc : Option Addr) (cc : Nat) (a : Option Addr) (w : World) (h : Ctx w B b a len cap m) (hm : m ≤ 60000) (hf : frB f = true) (hA : Among at' cs [16384, 16392]) (hc : Ints w w.heap.size b pc cs) :
    Calls Tryz.prog 37 #[.pointer (some ⟨b, 0, none⟩), .int .i64 at', .int .i64 f, .slice pc cs.length cc] w fun e w' => TextAns B b len cap m a w e w' := by
  obtain ⟨i0, hi, hz0, hz1, hz2⟩ := info_parts Tryz.info_insF
  obtain ⟨f0, f1, _⟩ := frB_bd hf
  have hbw := h.bw
  go_enter Tryz.func37, Tryz.ntmps37
  go_wp2_with fail
  refine (next_small B b len cap m 6 a _ h (by omega) (by omega) (by omega)).mono ?_
  rintro e w1 ⟨u, hu, rfl, c1, g1⟩
  have hu1 : (u : Int) < 6 := by omega
  obtain ⟨p, hp⟩ : ∃ p : Nat, 1 + (u : Int) = (p : Int) := ⟨u + 1, by omega⟩
  have hp6 : p ≤ 6 := by omega
  have s1 := g1.size
  have I1 := hc.grown g1
  clear h hc
  go_wp2_with fail
  have G1 : w.grownBy (w1.alloc (.cells #[.int .i64 16384, .int .i64 16392] 3)) (some b) := grownBy_trans g1 (World.grownBy_alloc w1 _ _)
  have I2 : Ints (w1.alloc (.cells #[.int .i64 16384, .int .i64 16392] 3)) (w1.alloc (.cells #[.int .i64 16384, .int .i64 16392] 3)).heap.size b pc cs := by
    have := I1.grown (World.grownBy_alloc w1 (.cells #[.int .i64 16384, .int .i64 16392] 3) (some b))
    refine ⟨Nat.le_refl _, ?_⟩
    rcases this.2 with h | ⟨c, o, h1, h2, h3, h4⟩
    · exact .inl h
    · exact .inr ⟨c, o, h1, by simp; omega, h3, h4⟩
  have D2 : Ints (w1.alloc (.cells #[.int .i64 16384, .int .i64 16392] 3)) (w1.alloc (.cells #[.int .i64 16384, .int .i64 16392] 3)).heap.size b (some ⟨w1.heap.size, 0, none⟩) [16384, 16392] := by
    refine ⟨Nat.le_refl _, .inr ⟨w1.heap.size, 0, rfl, by simp, by omega, fun i z hz => ?_⟩⟩
    match i, hz with
    | 0, hz =>
      obtain rfl : 16384 = z := by simpa using hz
      simp
    | 1, hz =>
      obtain rfl : 16392 = z := by simpa using hz
      simp
  have c2 := c1.alloc (.cells #[.int .i64 16384, .int .i64 16392] 3)
  refine (function_ctx B b len cap _ p at' f cs [16384, 16392] pc (some ⟨w1.heap.size, 0, none⟩) cc 2 a _ c2 (by omega) (by omega) hf hA I2 D2).mono ?_
  rintro e w3 ⟨g, c, Bd, rfl, own, hbd, hle, hpos, c3, g3⟩
  have G3 := grownBy_trans G1 g3
  obtain ⟨L, hL⟩ : ∃ L, Fun f Bd = L := ⟨_, rfl⟩
  have hlen : Bd.length + 5 = L.length := by rw [← hL, Fun_len]
  have hright : ∀ x ∈ L, rt5 x = true := by rw [← hL]; exact fun_right hf hbd
  have l5 : 5 ≤ L.length := by omega
  have l56 : L.length ≤ 56 := by omega
  rw [hL, hlen] at own
  rw [hlen]
  have hgb : b < g := by
    have h1 := (own.lt g rfl).1
    simp at h1
    omega
  clear hL hlen hbd hle hpos g3 G1 I1 I2 D2 c1 c2 g1 hp hA
  have hrt : ∀ k, k < L.length → rtB (rz L) k = true := fun k hk => rt_of hright hk
  go_wp2_with fail
  refine (chance_ctx B b len cap _ 2 a _ c3 (by omega) (by omega) (by omega)).mono ?_
  rintro e w4 ⟨q, rfl, c4, g4⟩
  have G4 := grownBy_trans G3 g4
  have own4 := own.kept g4 (.inr (by simp [Value.ownBlock]; omega))
  clear g4 own c3 G3
  cases q with
  | false =>
    have lp := own_list own4 (by omega)
    clear own4
    go_wp2_with fail
    refine (specWords0 _ L.length _ (rz L) _ (by omega) lp hrt).mono ?_
    rintro e wu ⟨rfl, bu⟩
    have cu := c4.below bu
    have Gu := grownBy_below G4 bu
    obtain ⟨T, hT⟩ : ∃ T : ByteArray, T = ⟨(wL (rz L) L.length).toArray⟩ := ⟨_, rfl⟩
    have hTs : T.size = 4 * L.length := by
      rw [hT]
      show (wL (rz L) L.length).toArray.size = _
      rw [List.size_toArray, wL_len]
    rw [← hT]
    clear hT bu
    clear lp hrt c4 G4
    go_wp2_with fail
    refine (next_small B b len cap _ 20 a _ cu (by omega) (by omega) (by omega)).mono ?_
    rintro e wv ⟨y, hy, rfl, cv, gv⟩
    have Gv := grownBy_trans Gu gv
    clear gv Gu cu
    rcases (show y = 0 ∨ y = 1 ∨ y = 2 ∨ y = 3 ∨ 4 ≤ y by omega) with rfl | rfl | rfl | rfl | hy4
    · go_wp2_with fail
      refine (next_small B b len cap _ 6 a _ cv (by omega) (by omega) (by omega)).mono ?_
      rintro e wx ⟨z, hz, rfl, cx, gx⟩
      have Gx := grownBy_trans Gv gx
      have z1 : (z : Int) < 6 := by omega
      have s0 : (0 : Int) ≤ (T.size : Int) - 4 * (z : Int) := by omega
      have s1 : (T.size : Int) - 4 * (z : Int) ≤ (T.size : Int) := by omega
      clear gx Gv cv
      go_wp2
      go_ret
      exact ⟨_, rfl, by simp only [ByteArray.size_extract]; omega, cx.mono (by omega), Gx⟩
    · have ad := add_any T { data := #[120] } (by rw [x_sizeE]; omega)
      go_wp2
      go_ret
      exact ⟨_, rfl, by rw [ByteArray.size_append, x_sizeE]; omega, cv.mono (by omega), Gv⟩
    · go_wp2_with fail
      refine (next_small B b len cap _ L.length a _ cv (by omega) (by omega) (by omega)).mono ?_
      rintro e wx ⟨z, hz, rfl, cx, gx⟩
      have Gx := grownBy_trans Gv gx
      have z1 : (z : Int) < (L.length : Nat) := by omega
      obtain ⟨q, hq⟩ : ∃ q : Nat, 4 * (z : Int) = (q : Int) := ⟨4 * z, by omega⟩
      have q0 : (0 : Int) ≤ (q : Int) := by omega
      have q1 : (q : Int) ≤ (T.size : Int) := by omega
      have q2 : (0 : Int) ≤ (q : Int) + 4 := by omega
      have q3 : (q : Int) + 4 ≤ (T.size : Int) := by omega
      have ew := wrap_i64_in ((q : Int) + 4) (by omega) (by omega)
      have qn : q ≤ T.size := by omega
      have ez : (T.extract 0 q).size = q := by rw [ByteArray.size_extract]; omega
      have ez2 : (T.extract (q + 4) T.size).size = T.size - (q + 4) := by rw [ByteArray.size_extract]; omega
      have ad1 := add_any (T.extract 0 q) { data := #[0, 0, 0, 0] } (by rw [ez, z_sizeE]; omega)
      have ad2 := add_any (T.extract 0 q ++ { data := #[0, 0, 0, 0] }) (T.extract (q + 4) T.size) (by rw [ByteArray.size_append, ez, ez2, z_sizeE]; omega)
      clear gx Gv cv
      go_wp2_with fail
      go_region
      go_wp2
      go_ret
      exact ⟨_, rfl, by simp only [ByteArray.size_append, ByteArray.size_extract, z_sizeE]; omega, by first | exact cx.mono (by omega) | exact cx.drew.mono (by omega), by first | exact Gx | exact grownBy_drew Gx⟩
    · have hj : ∀ i, i < 1 → rtB (rz [⟨3, 0, 0, 0, -12⟩]) i = true := fun i hi => by
        obtain rfl : i = 0 := by omega
        exact right_jal 0 (-12) (by omega) (by omega)
      go_wp2_with fail
      refine (specWords0 _ 1 1 (rz [⟨3, 0, 0, 0, -12⟩]) _ (by omega) (one_list wv _ _ ⟨3, 0, 0, 0, -12⟩ rfl) hj).mono ?_
      rintro e wx ⟨rfl, bx⟩
      have cx := (cv.alloc _).below bx
      have Gx := grownBy_below (grownBy_trans Gv (World.grownBy_alloc wv _ _)) bx
      obtain ⟨S, hS⟩ : ∃ S : ByteArray, S = ⟨(wL (rz [⟨3, 0, 0, 0, -12⟩]) 1).toArray⟩ := ⟨_, rfl⟩
      have hSs : S.size = 4 * 1 := by
        rw [hS]
        show (wL (rz [⟨3, 0, 0, 0, -12⟩]) 1).toArray.size = _
        rw [List.size_toArray, wL_len]
      rw [← hS]
      have ad := add_any T S (by omega)
      clear hS bx hj cv Gv
      go_wp2
      go_ret
      exact ⟨_, rfl, by rw [ByteArray.size_append]; omega, cx.mono (by omega), Gx⟩
    · have y0 : ¬ y = 0 := by omega
      have y1 : ¬ y = 1 := by omega
      have y2 : ¬ y = 2 := by omega
      have y3 : ¬ y = 3 := by omega
      go_wp2
      go_ret
      exact ⟨_, rfl, by omega, cv.mono (by omega), Gv⟩
  | true =>
    go_wp2_with fail
    refine (next_small B b len cap _ L.length a _ c4 (by omega) (by omega) (by omega)).mono ?_
    rintro e w5 ⟨i, hi5, rfl, c5, g5⟩
    have G5 := grownBy_trans G4 g5
    clear c4 G4
    have own5 := own4.kept g5 (.inr (by simp [Value.ownBlock]; omega))
    clear g5 own4
    go_wp2_with fail
    refine (next_small B b len cap _ 12 a _ c5 (by omega) (by omega) (by omega)).mono ?_
    rintro e w6 ⟨u1, hu1, rfl, c6, g6⟩
    have hu1I : (u1 : Int) < 12 := by omega
    have G6 := grownBy_trans G5 g6
    have own6 := own5.kept g6 (.inr (by simp [Value.ownBlock]; omega))
    clear g6 c5 G5 own5
    go_wp2_with fail
    refine (next_small B b len cap _ 9 a _ c6 (by omega) (by omega) (by omega)).mono ?_
    rintro e w7 ⟨u2, hu2, rfl, c7, g7⟩
    have hu2I : (u2 : Int) < 9 := by omega
    have G7 := grownBy_trans G6 g7
    have own7 := own6.kept g7 (.inr (by simp [Value.ownBlock]; omega))
    clear g7 c6 G6 own6
    go_wp2_with fail
    refine (next_small B b len cap _ 12 a _ c7 (by omega) (by omega) (by omega)).mono ?_
    rintro e w8 ⟨u3, hu3, rfl, c8, g8⟩
    have hu3I : (u3 : Int) < 12 := by omega
    have G8 := grownBy_trans G7 g8
    have own8 := own7.kept g8 (.inr (by simp [Value.ownBlock]; omega))
    clear g8 c7 G7 own7
    obtain ⟨v1, hv1⟩ : ∃ v1 : Int, v1 = (u1 : Int) := ⟨_, rfl⟩
    obtain ⟨v2, hv2⟩ : ∃ v2 : Int, v2 = (u2 : Int) := ⟨_, rfl⟩
    obtain ⟨v3, hv3⟩ : ∃ v3 : Int, v3 = (u3 : Int) := ⟨_, rfl⟩
    go_wp2_with fail
    have cells := cells_new w8 #[.int .i64 4, .int .i64 0, .int .i64 1, .int .i64 0, .int .i64 0, .int .i64 3, .int .i64 0, .int .i64 0, .int .i64 0, .int .i64 (4 * (u1 : Int) - 24), .int .i64 3, .int .i64 1, .int .i64 0, .int .i64 0, .int .i64 (4 * (u2 : Int)), .int .i64 5, .int .i64 0, .int .i64 0, .int .i64 0, .int .i64 (4 * (u3 : Int) - 24), .int .i64 22, .int .i64 1, .int .i64 0, .int .i64 0, .int .i64 1, .int .i64 22, .int .i64 2, .int .i64 2, .int .i64 0, .int .i64 f, .int .i64 14, .int .i64 5, .int .i64 2, .int .i64 0, .int .i64 (f - 8), .int .i64 18, .int .i64 0, .int .i64 2, .int .i64 0, .int .i64 (f - 9), .int .i64 14, .int .i64 1, .int .i64 2, .int .i64 0, .int .i64 (f - 8), .int .i64 20, .int .i64 0, .int .i64 2, .int .i64 0, .int .i64 2, .int .i64 3, .int .i64 3, .int .i64 0, .int .i64 0, .int .i64 0] 39 (spW f u1 u2 u3) rfl
    refine (next_small B b len cap _ 11 a _ (c8.alloc _) (by omega) (by omega) (by omega)).mono ?_
    rintro e w9 ⟨v, hv, rfl, c9, g9⟩
    have hv11 : (v : Int) < 11 := by omega
    have hvl : v < (spW f u1 u2 u3).length := by simpa [spW] using hv
    obtain ⟨x, hx⟩ : ∃ x, (spW f u1 u2 u3)[v]? = some x := ⟨_, List.getElem?_eq_getElem hvl⟩
    have hxr : rt5 x = true := spW_right f u1 u2 u3 ⟨f0, f1⟩ ⟨by omega, by omega⟩ ⟨by omega, by omega⟩ ⟨by omega, by omega⟩ x (List.mem_of_getElem? hx)
    have hb8 := c8.bw
    have keep : ∀ j, j < 55 → w9.cell? ⟨w8.heap.size, j, none⟩ = some (.int .i64 (rz (spW f u1 u2 u3) j)) := fun j hj => by
      rw [World.cell?_of_block (a := ⟨w8.heap.size, j, none⟩) (g9.block w8.heap.size (by simp) (by intro e; injection e; omega))]
      exact cells j _ (insV_at (by simpa [spW] using hj))
    obtain ⟨x0, x1, x2, x3, x4⟩ := rz_at hx
    have k0 := keep (v * 5) (by omega)
    have k1 := keep (v * 5 + 1) (by omega)
    have k2 := keep (v * 5 + 2) (by omega)
    have k3 := keep (v * 5 + 3) (by omega)
    have k4 := keep (v * 5 + 4) (by omega)
    rw [x0] at k0
    rw [x1] at k1
    rw [x2] at k2
    rw [x3] at k3
    rw [x4] at k4
    have G9 := grownBy_trans (grownBy_trans G8 (World.grownBy_alloc w8 _ _)) g9
    have own9 := (own8.alloc _).kept g9 (.inr (by simp [Value.ownBlock]; omega))
    obtain ⟨cap9, cur, hl9, hcap9, hcs9, htk9⟩ : ∃ cap9 cur, Lies w9 g 39 cur ∧ L.length ≤ cap9 ∧ cur.size = cap9 * 5 ∧ cur.toList.take (L.length * 5) = insV L := by
      rcases own9.2 with ⟨hh, _⟩ | ⟨g', cap', cur, hh, _, hh1, hh2, _, hh3, hh4⟩
      · cases hh
      · obtain ⟨rfl, rfl⟩ : g = g' ∧ c = cap' := by simpa using hh
        exact ⟨_, cur, hh1, hh2, hh3, hh4⟩
    have hcur : ∀ j, j < L.length * 5 → cur[j]? = some (.int .i64 (rz L j)) := fun j hj => by
      have := insV_at (L := L) hj
      rw [← htk9, List.getElem?_take, if_pos hj, Array.getElem?_toList] at this
      exact this
    obtain ⟨new, hnew⟩ : ∃ new, (cur.toList.take (i * 5) ++ (#[.int .i64 x.o, .int .i64 x.d, .int .i64 x.a, .int .i64 x.b, .int .i64 x.i] : Array Value).toList ++ cur.toList.drop (i * 5 + 5)).toArray = new := ⟨_, rfl⟩
    have lp := put_list hl9 hcur (by omega) hi5 new hnew
    have HN : Hid (_ = new) := hnew
    have hrt2 := putR_right (i := i) hrt hxr
    have ct : Ctx (w9.setRow g new) B b a len cap (m + 70) := (ctx_far c9 (grownBy_setRow w9 g new) hgb).mono (by omega)
    have Gt : w.grownBy (w9.setRow g new) (some b) := grownBy_own G9 (grownBy_setRow w9 g new) (fun k e => by injection e with e; have := (own9.lt g rfl).1; simp at this; omega)
    have hi' : (Tryz.prog.info? 39).map (·.size) = some (#[Value.int .i64 x.o, .int .i64 x.d, .int .i64 x.a, .int .i64 x.b, .int .i64 x.i] : Array Value).size := by rw [hi]; simp [hz1]
    have hii : (i : Int) < L.length := by omega
    clear own9 own8 G9 G8 g9 c9 c8 keep cells htk9 hcur hnew hv1 hv2 hv3 hrt hx hxr x0 x1 x2 x3 x4
    go_wp2_with (refine wpList_store_part rfl 39 (.tmp 64) (.tmp 63) rfl g (i * 5) #[.int .i64 x.o, .int .i64 x.d, .int .i64 x.a, .int .i64 x.b, .int .i64 x.i] rfl rfl _ _ hl9 hi' (by simp; omega) (by simp [Value.oneCell']) new HN.out ?_)
    go_wp2_with fail
    refine (specWords0 _ L.length _ (putR (rz L) i x) _ (by omega) lp hrt2).mono ?_
    rintro e wu ⟨rfl, bu⟩
    have cu := ct.below bu
    have Gu := grownBy_below Gt bu
    obtain ⟨T, hT⟩ : ∃ T : ByteArray, T = ⟨(wL (putR (rz L) i x) L.length).toArray⟩ := ⟨_, rfl⟩
    have hTs : T.size = 4 * L.length := by
      rw [hT]
      show (wL (putR (rz L) i x) L.length).toArray.size = _
      rw [List.size_toArray, wL_len]
    rw [← hT]
    clear hT bu
    clear lp hrt2 ct Gt
    go_wp2_with fail
    refine (next_small B b len cap _ 20 a _ cu (by omega) (by omega) (by omega)).mono ?_
    rintro e wv ⟨y, hy, rfl, cv, gv⟩
    have Gv := grownBy_trans Gu gv
    clear gv Gu cu
    rcases (show y = 0 ∨ y = 1 ∨ y = 2 ∨ y = 3 ∨ 4 ≤ y by omega) with rfl | rfl | rfl | rfl | hy4
    · go_wp2_with fail
      refine (next_small B b len cap _ 6 a _ cv (by omega) (by omega) (by omega)).mono ?_
      rintro e wx ⟨z, hz, rfl, cx, gx⟩
      have Gx := grownBy_trans Gv gx
      have z1 : (z : Int) < 6 := by omega
      have s0 : (0 : Int) ≤ (T.size : Int) - 4 * (z : Int) := by omega
      have s1 : (T.size : Int) - 4 * (z : Int) ≤ (T.size : Int) := by omega
      clear gx Gv cv
      go_wp2
      go_ret
      exact ⟨_, rfl, by simp only [ByteArray.size_extract]; omega, cx.mono (by omega), Gx⟩
    · have ad := add_any T { data := #[120] } (by rw [x_sizeE]; omega)
      go_wp2
      go_ret
      exact ⟨_, rfl, by rw [ByteArray.size_append, x_sizeE]; omega, cv.mono (by omega), Gv⟩
    · go_wp2_with fail
      refine (next_small B b len cap _ L.length a _ cv (by omega) (by omega) (by omega)).mono ?_
      rintro e wx ⟨z, hz, rfl, cx, gx⟩
      have Gx := grownBy_trans Gv gx
      have z1 : (z : Int) < (L.length : Nat) := by omega
      obtain ⟨q, hq⟩ : ∃ q : Nat, 4 * (z : Int) = (q : Int) := ⟨4 * z, by omega⟩
      have q0 : (0 : Int) ≤ (q : Int) := by omega
      have q1 : (q : Int) ≤ (T.size : Int) := by omega
      have q2 : (0 : Int) ≤ (q : Int) + 4 := by omega
      have q3 : (q : Int) + 4 ≤ (T.size : Int) := by omega
      have ew := wrap_i64_in ((q : Int) + 4) (by omega) (by omega)
      have qn : q ≤ T.size := by omega
      have ez : (T.extract 0 q).size = q := by rw [ByteArray.size_extract]; omega
      have ez2 : (T.extract (q + 4) T.size).size = T.size - (q + 4) := by rw [ByteArray.size_extract]; omega
      have ad1 := add_any (T.extract 0 q) { data := #[0, 0, 0, 0] } (by rw [ez, z_sizeE]; omega)
      have ad2 := add_any (T.extract 0 q ++ { data := #[0, 0, 0, 0] }) (T.extract (q + 4) T.size) (by rw [ByteArray.size_append, ez, ez2, z_sizeE]; omega)
      clear gx Gv cv
      go_wp2_with fail
      go_region
      go_wp2
      go_ret
      exact ⟨_, rfl, by simp only [ByteArray.size_append, ByteArray.size_extract, z_sizeE]; omega, by first | exact cx.mono (by omega) | exact cx.drew.mono (by omega), by first | exact Gx | exact grownBy_drew Gx⟩
    · have hj : ∀ i, i < 1 → rtB (rz [⟨3, 0, 0, 0, -12⟩]) i = true := fun i hi => by
        obtain rfl : i = 0 := by omega
        exact right_jal 0 (-12) (by omega) (by omega)
      go_wp2_with fail
      refine (specWords0 _ 1 1 (rz [⟨3, 0, 0, 0, -12⟩]) _ (by omega) (one_list wv _ _ ⟨3, 0, 0, 0, -12⟩ rfl) hj).mono ?_
      rintro e wx ⟨rfl, bx⟩
      have cx := (cv.alloc _).below bx
      have Gx := grownBy_below (grownBy_trans Gv (World.grownBy_alloc wv _ _)) bx
      obtain ⟨S, hS⟩ : ∃ S : ByteArray, S = ⟨(wL (rz [⟨3, 0, 0, 0, -12⟩]) 1).toArray⟩ := ⟨_, rfl⟩
      have hSs : S.size = 4 * 1 := by
        rw [hS]
        show (wL (rz [⟨3, 0, 0, 0, -12⟩]) 1).toArray.size = _
        rw [List.size_toArray, wL_len]
      rw [← hS]
      have ad := add_any T S (by omega)
      clear hS bx hj cv Gv
      go_wp2
      go_ret
      exact ⟨_, rfl, by rw [ByteArray.size_append]; omega, cx.mono (by omega), Gx⟩
    · have y0 : ¬ y = 0 := by omega
      have y1 : ¬ y = 1 := by omega
      have y2 : ¬ y = 2 := by omega
      have y3 : ¬ y = 3 := by omega
      go_wp2
      go_ret
      exact ⟨_, rfl, by omega, cv.mono (by omega), Gv⟩
end Go.Proofs.YtiandbhcjecphaaGreatDoor.Fu

namespace Go.Proofs.YtiandbhcjecphaaGreatDoor.Fu
open Go Go.RowKit
set_option linter.unusedVariables false

theorem proNew (f : Int) (w : World) (h : frB f = true) :
    Calls Tryz.prog 5 #[.int .i64 f] w fun e w' => ∃ g, e = .returned (.tuple #[.slice (some ⟨g, 0, none⟩) 2 2, .int .i64 0]) ∧ Below w.heap.size w w' ∧ g < w'.heap.size ∧ (∀ j u, (insV (proL f))[j]? = some u → w'.cell? ⟨g, j, none⟩ = some u) := by
  obtain ⟨h0, h1, hw⟩ := frB_bd h
  go_enter Tryz.func5, Tryz.ntmps5
  go_wp2_with (go_at_call 8; refine (frImpl f _ hw).mono ?_; rintro e w' ⟨rfl, rfl⟩; rw [h])
  go_ret2
  exact ⟨_, rfl, grown1 _ _, by simp, cells_new _ _ _ (proL f) rfl⟩
theorem epiNew (f : Int) (w : World) (h : frB f = true) :
    Calls Tryz.prog 6 #[.int .i64 f] w fun e w' => ∃ g, e = .returned (.tuple #[.slice (some ⟨g, 0, none⟩) 3 3, .int .i64 0]) ∧ Below w.heap.size w w' ∧ g < w'.heap.size ∧ (∀ j u, (insV (epiL f))[j]? = some u → w'.cell? ⟨g, j, none⟩ = some u) := by
  obtain ⟨h0, h1, hw⟩ := frB_bd h
  go_enter Tryz.func6, Tryz.ntmps6
  go_wp2_with (go_at_call 8; refine (frImpl f _ hw).mono ?_; rintro e w' ⟨rfl, rfl⟩; rw [h])
  go_ret2
  exact ⟨_, rfl, grown1 _ _, by simp, cells_new _ _ _ (epiL f) rfl⟩

theorem spoiledDrawn_any (len cap B : Nat) (a : Option Addr) (f : Int) (w : World) (hB : Bytes w B a len) (hb : B ≤ w.heap.size) (hf : frB f = true) :
    Calls Tryz.prog 15 #[.slice a len cap, .int .i64 f] w fun e w' => ∃ s : ByteArray, e = .returned (.string s) ∧ s.size ≤ 1000 ∧ Below w.heap.size w w' := by
  go_enter Tryz.func15, Tryz.ntmps15
  go_wp2_with fail
  refine (source_any len cap a _ hB.1).mono ?_
  rintro e w1 ⟨sd, rfl, hs, hbel, hsz⟩
  have hc1 : Ctx w1 B w.heap.size a len cap 0 := ⟨⟨0, sd, by omega, hs⟩, hB.below (hbel.mono hb), hb, hsz⟩
  have I2 : Ints (w1.alloc (.cells #[.int .i64 4096, .int .i64 4200] 3)) (w1.alloc (.cells #[.int .i64 4096, .int .i64 4200] 3)).heap.size w.heap.size (some ⟨w1.heap.size, 0, none⟩) [4096, 4200] := by
    refine ⟨Nat.le_refl _, .inr ⟨w1.heap.size, 0, rfl, by simp, by omega, fun i z hz => ?_⟩⟩
    match i, hz with
    | 0, hz =>
      obtain rfl : 4096 = z := by simpa using hz
      simp
    | 1, hz =>
      obtain rfl : 4200 = z := by simpa using hz
      simp
  have hA : Among 4096 [4096, 4200] [16384, 16392] := by
    refine ⟨⟨by omega, by omega, by omega⟩, fun c hc => ?_, fun d hd => ?_, by simp, by simp⟩
    · simp only [List.mem_cons, List.not_mem_nil, or_false] at hc
      rcases hc with rfl | rfl <;> omega
    · simp only [List.mem_cons, List.not_mem_nil, or_false] at hd
      rcases hd with rfl | rfl <;> omega
  have sz1 := hbel.size
  go_wp2_with fail
  refine (spoiled_ctx B w.heap.size len cap 0 4096 f [4096, 4200] (some ⟨w1.heap.size, 0, none⟩) 2 a _ (hc1.alloc _) (by omega) hf hA I2).mono ?_
  rintro e w2 ⟨s, rfl, hss, _, hg⟩
  have bel := (hbel.alloc hbel.size (.cells #[.int .i64 4096, .int .i64 4200] 3)).trans (below_of hg (Nat.le_refl _) (by simp; omega))
  clear I2 hA hc1 hs hbel hg
  go_wp2
  go_ret
  exact ⟨s, rfl, hss, bel⟩
end Go.Proofs.YtiandbhcjecphaaGreatDoor.Fu

namespace Go.Proofs.YtiandbhcjecphaaGreatDoor.Fu
open Go Go.RowKit
set_option linter.unusedVariables false

theorem cells_keep {w w' : World} {g B : Nat} {L : List I5} (h : ∀ j u, (insV L)[j]? = some u → w.cell? ⟨g, j, none⟩ = some u) (hb : Below B w w') (hg : g < B) : ∀ j u, (insV L)[j]? = some u → w'.cell? ⟨g, j, none⟩ = some u :=
  fun j u hu => (hb.cell (p := ⟨g, j, none⟩) hg).trans (h j u hu)
theorem cells_far {w w' : World} {g k : Nat} {L : List I5} (h : ∀ j u, (insV L)[j]? = some u → w.cell? ⟨g, j, none⟩ = some u) (hg : w.grownBy w' (some k)) (hlt : g < w.heap.size) (hne : g < k) : ∀ j u, (insV L)[j]? = some u → w'.cell? ((⟨g, 0, none⟩ : Addr).add j) = some u :=
  fun j u hu => by
    rw [add_at]
    exact (World.cell?_of_block (a := ⟨g, j, none⟩) (hg.block g hlt (by intro e; injection e; omega))).trans (h j u hu)
theorem at_of {w : World} {g : Nat} {L : List I5} (h : ∀ j u, (insV L)[j]? = some u → w.cell? ((⟨g, 0, none⟩ : Addr).add j) = some u) : ∀ j u, (insV L)[j]? = some u → w.cell? ⟨g, j, none⟩ = some u :=
  fun j u hu => by
    have := h j u hu
    rw [add_at] at this
    exact this

theorem ints_two (w : World) (x y : Int) (t : TypeId) : IntsAt (w.alloc (.cells #[.int .i64 x, .int .i64 y] t)) (some ⟨w.heap.size, 0, none⟩) [x, y] := by
  refine .inr ⟨w.heap.size, 0, rfl, by simp, fun i hi => ?_⟩
  match i, hi with
  | 0, _ => simp
  | 1, _ => simp
set_option maxRecDepth 100000 in
set_option maxHeartbeats 20000000 in
theorem shape_law (a0 a1 : Option Addr) (len0 cap0 len1 cap1 : Nat) (w : World) (hL : Laid w) (b0 : Bytes w w.heap.size a0 len0) (b1 : Bytes w w.heap.size a1 len1) (h0 : len0 ≤ 1048576) (h1 : len1 ≤ 1048576) :
    Calls Tryz.prog 3 #[.slice a0 len0 cap0, .slice a1 len1 cap1] w fun e w' => e = .returned (.bool true) ∧ Below w.heap.size w w' := by
  obtain ⟨i0, hi, hz0, hz1, hz2⟩ := info_parts Tryz.info_insF
  have HL : Hid (∀ W, Below w.heap.size w W → Laid W) := fun W hb => laid_below hL hb
  clear hL
  go_enter Tryz.func3, Tryz.ntmps3
  go_wp2_with fail
  refine (frameDrawn_any len1 cap1 w.heap.size a1 _ b1 (Nat.le_refl _)).mono ?_
  rintro e wa ⟨f, hf, rfl, ba⟩
  obtain ⟨f0, f1, fw⟩ := frB_bd hf
  go_wp2_with fail
  refine (proNew f _ hf).mono ?_
  rintro e wb ⟨gp, rfl, bb, hgp, cp⟩
  have B1 := ba.trans (bb.mono ba.size)
  clear ba bb
  go_wp2_with fail
  refine (epiNew f _ hf).mono ?_
  rintro e wc ⟨ge, rfl, bc, hge, ce⟩
  have B2 := B1.trans (bc.mono B1.size)
  have cp2 := cells_keep cp bc hgp
  have hgp2 := Nat.lt_of_lt_of_le hgp bc.size
  clear cp hgp bc B1
  go_wp2_with fail
  refine (bodyDrawn_any len0 cap0 w.heap.size a0 f _ (b0.below B2) B2.size hf).mono ?_
  rintro e wd ⟨gb, cb, Bd, rfl, own, hbd, hl1, hl51, bd⟩
  have B3 := B2.trans (bd.mono B2.size)
  have cp3 := cells_keep cp2 bd hgp2
  have ce3 := cells_keep ce bd hge
  have hgp3 := Nat.lt_of_lt_of_le hgp2 bd.size
  have hge3 := Nat.lt_of_lt_of_le hge bd.size
  have hgb3 := (own.lt gb rfl).2
  have cb3 : ∀ j u, (insV Bd)[j]? = some u → wd.cell? ⟨gb, j, none⟩ = some u := at_of (own.cells rfl)
  obtain ⟨s, T⟩ := text_of hf hbd hl51
  have hN : 2 + Bd.length + 3 = (Fun f Bd).length := by rw [Fun_len]; omega
  clear cp2 ce hgp2 hge bd B2 own hbd b0
  go_wp2_with (first | (go_at_call 8; refine (frImpl f _ fw).mono ?_; rintro e we ⟨rfl, rfl⟩; rw [hf]; have own0 : (we.alloc (.cells #[] 39)).ownsRow w.heap.size 39 5 (.slice (some ⟨we.heap.size, 0, none⟩) 0 0) 0 [] := World.ownsRow_made we #[] 0 B3.size (by unfold maxLen; omega) rfl; have gr0 := World.grownBy_alloc we (.cells #[] 39) (some we.heap.size); have s0 := gr0.size; have z0 : we.heap.size < (we.alloc (.cells #[] 39)).heap.size := (by simp); have s00 := B3.size; have cp4 := cells_far cp3 gr0 hgp3 hgp3; have cb4 := at_of (cells_far cb3 gr0 hgb3 hgb3); have ce4 := at_of (cells_far ce3 gr0 hge3 hge3); have B4 : Below w.heap.size w (we.alloc (.cells #[] 39)) := B3.alloc B3.size _) | (at_builtin; refine wpList_append_lies _ rfl (.tmp 67) (.tmp 68) 24 rfl w.heap.size 39 i0 _ 5 40 Tryz.underlying24 hi hz0 hz1 hz2 rfl (by omega) _ _ _ rfl own0 ⟨gp, 0, none⟩ 2 2 (insV (proL f)) rfl rfl cp4 (insV_one _) (by omega) (by unfold maxLen; omega) (by omega) (by omega) _ rfl ?_; intro g1 c1 wf own1 gr1 hat1 hlt1; have own1' : wf.ownsRow w.heap.size 39 5 (.slice (some ⟨g1, 0, none⟩) 2 c1) 2 (insV (proL f)) := own1; have gr1' : (we.alloc (.cells #[] 39)).grownBy wf (some we.heap.size) := gr1; have hat1' : some we.heap.size = some g1 ∨ g1 = (we.alloc (.cells #[] 39)).heap.size := hat1; have hg1 : we.heap.size ≤ g1 := (by rcases hat1' with h | h <;> (try injection h with h) <;> omega); have s1 := gr1'.size; have cb5 := cells_far cb4 gr1' (by omega) hgb3; have ce5 := at_of (cells_far ce4 gr1' (by omega) hge3); have B5 := B4.grown gr1' (by omega) (fun k e => by injection e with e; omega)) | (at_builtin; refine wpList_append_lies _ rfl (.tmp 69) (.tmp 70) 24 rfl w.heap.size 39 i0 _ 5 40 Tryz.underlying24 hi hz0 hz1 hz2 rfl (by omega) _ _ _ rfl own1' ⟨gb, 0, none⟩ Bd.length cb (insV Bd) rfl (insV_len Bd) cb5 (insV_one _) (by omega) (by unfold maxLen; omega) (by omega) (by omega) _ rfl ?_; intro g2 c2 wg own2 gr2 hat2 hlt2; have own2' : wg.ownsRow w.heap.size 39 5 (.slice (some ⟨g2, 0, none⟩) (2 + Bd.length) c2) (2 + Bd.length) (insV (proL f) ++ insV Bd) := own2; have gr2' : wf.grownBy wg (some g1) := gr2; have s2 := gr2'.size; have ce6 := cells_far ce5 gr2' (by omega) (by omega); have hat2' : some g1 = some g2 ∨ g2 = wf.heap.size := hat2; have hg2 : we.heap.size ≤ g2 := (by rcases hat2' with h | h <;> (try injection h with h) <;> omega); have B6 := B5.grown gr2' (by omega) (fun k e => by injection e with e; omega)) | (at_builtin; refine wpList_append_lies _ rfl (.tmp 71) (.tmp 72) 24 rfl w.heap.size 39 i0 _ 5 40 Tryz.underlying24 hi hz0 hz1 hz2 rfl (by omega) _ _ _ rfl own2' ⟨ge, 0, none⟩ 3 3 (insV (epiL f)) rfl rfl ce6 (insV_one _) (by omega) (by unfold maxLen; omega) (by omega) (by omega) _ rfl ?_; intro g3 c3 wh own3 gr3 hat3 hlt3; have own3' : wh.ownsRow w.heap.size 39 5 (.slice (some ⟨g3, 0, none⟩) (2 + Bd.length + 3) c3) (2 + Bd.length + 3) (insV (proL f) ++ insV Bd ++ insV (epiL f)) := own3; have gr3' : wg.grownBy wh (some g2) := gr3; have B7 := B6.grown gr3' (by omega) (fun k e => by injection e with e; omega)))
  have own4 : wh.ownsRow w.heap.size 39 5 (.slice (some ⟨g3, 0, none⟩) (Fun f Bd).length c3) (Fun f Bd).length (insV (Fun f Bd)) := by
    have h := own3'
    rw [hN, ← insV_append, ← insV_append] at h
    exact h
  have hn5 : 5 ≤ (Fun f Bd).length := by omega
  have hn64 : (Fun f Bd).length ≤ 64 := by omega
  have hg3 := (own4.lt g3 rfl).2
  have rd : Rdb wh g3 0 ((Fun f Bd).length * 5) (rz (Fun f Bd)) := fun i hi => by
    have := own4.cells rfl i _ (insV_at hi)
    rw [add_at] at this
    rw [Nat.zero_add]
    exact this
  clear own3 own3' own4 gr3 gr3' hat3 hlt3 B6 own2 own2' gr2 gr2' hat2 hat2' hlt2 B5 own1 own1' gr1 gr1' hat1 hat1' hlt1 B4 own0 gr0 cp3 cp4 cb3 cb4 cb5 ce3 ce4 ce5 ce6 hN B3 hg1 hg2 s0 s00 z0 s1 s2 hgp3 hge3 hgb3 hl1 hl51
  generalize (Fun f Bd).length = n at *
  generalize rz (Fun f Bd) = R at *
  have lst : ListAt wh (some ⟨g3, 0, none⟩) n R := .inr ⟨g3, 0, rfl, hg3, rd⟩
  refine (T.words.out _ _ _ (HL.out _ B7) lst).mono ?_
  rintro e wi ⟨rfl, bi⟩
  have B8 := B7.trans (bi.mono B7.size)
  have rd8 := rd.below bi hg3
  have hg8 := Nat.lt_of_lt_of_le hg3 bi.size
  clear lst rd hg3 bi B7
  go_wp2_with fail
  refine (T.instrs.out _ (HL.out _ B8)).mono ?_
  rintro e wj ⟨⟨p, c, rfl, ol⟩, bj⟩
  obtain ⟨gk, rfl, hgk0, hgk1, fl⟩ := ol.resolve_left (by omega)
  have rb := fl.rd
  have B9 := B8.trans (bj.mono B8.size)
  have rd9 := rd8.below bj hg8
  have hg9 := Nat.lt_of_lt_of_le hg8 bj.size
  clear rd8 hg8 bj B8 ol fl hgk0
  go_wp2_with fail
  refine (T.lint.out _ (HL.out _ B9)).mono ?_
  rintro e wk ⟨rfl, bk⟩
  have B10 := B9.trans (bk.mono B9.size)
  have rd10 := rd9.below bk hg9
  have hg10 := Nat.lt_of_lt_of_le hg9 bk.size
  have rb10 := rb.below bk hgk1
  have hk10 := Nat.lt_of_lt_of_le hgk1 bk.size
  clear rd9 hg9 bk B9 rb hgk1
  go_wp2_with fail
  refine (T.calls.out _ (HL.out _ B10)).mono ?_
  rintro e wl ⟨pq, cq, rfl, bl⟩
  have B11 := B10.trans (bl.mono B10.size)
  have rdl := rd10.below bl hg10
  have hgl := Nat.lt_of_lt_of_le hg10 bl.size
  have rbl := rb10.below bl hk10
  have hkl := Nat.lt_of_lt_of_le hk10 bl.size
  have HP := T.phase
  have HO := T.other
  clear rd10 hg10 bl B10 rb10 hk10 T
  go_wp2
  go_loopw [21] (fun i wr => ∃ k : Nat, k ≤ n ∧ i = .int .i64 k ∧ Below wl.heap.size wl wr) (fun i _ => n - (intOf i).toNat)
  case atStart => exact ⟨0, Nat.zero_le _, rfl, Below.refl _ _⟩
  case round =>
    obtain ⟨k, hk, rfl, hB⟩ := hrel
    have BW := B11.trans (hB.mono B11.size)
    by_cases hlt : k < n
    · obtain ⟨x, hx, HI0, HS0⟩ := HP.out k hlt
      have HI : Hid (∀ w, Laid w → Calls Tryz.prog 13 #[.string s, .int .i64 k] w fun e w' => e = .returned (.tuple #[.int .i64 x, .int .i64 0]) ∧ Below w.heap.size w w') := HI0
      have HS : Hid (∀ w, Calls Tryz.prog 14 #[.string s, .int .i64 k] w fun e w' => e = .returned (.tuple #[.int .i64 x, .int .i64 0]) ∧ Below w.heap.size w w') := HS0
      clear HI0 HS0 HO
      obtain ⟨x0, x1, x2, x3, x4⟩ := (rdl.below hB hgl).five hlt
      obtain ⟨y0, y1, y2, y3, y4⟩ := (rbl.below hB hkl).five hlt
      simp only [Nat.zero_add] at x0 x1 x2 x3 x4 y0 y1 y2 y3 y4
      have heq := fun w => eqlIns (R (k * 5)) (R (k * 5 + 1)) (R (k * 5 + 2)) (R (k * 5 + 3)) (R (k * 5 + 4)) (R (k * 5)) (R (k * 5 + 1)) (R (k * 5 + 2)) (R (k * 5 + 3)) (R (k * 5 + 4)) w
      rw [sm5_iff.2 ⟨rfl, rfl, rfl, rfl, rfl⟩] at heq
      go_wp2_with fail
      go_region
      go_wp2_with fail
      refine (HI.out _ (HL.out _ BW.drew)).mono ?_
      rintro e wm ⟨rfl, bm⟩
      have hB1 : Below wl.heap.size wl wm := hB.drew.trans (bm.mono hB.size)
      clear x0 x1 x2 x3 x4 y0 y1 y2 y3 y4 heq bm HI
      go_wp2_with fail
      refine (HS.out _).mono ?_
      rintro e wo ⟨rfl, bo⟩
      have hB2 := hB1.trans (bo.mono hB1.size)
      clear bo hB1 HS hB BW
      have h3 : (x = 0 ∧ k = 0) ∨ (x = 0 ∧ ¬ k = 0 ∧ (k : Int) = (n : Int) - 1) ∨ (¬ x = 0 ∧ ¬ k = 0 ∧ ¬ (k : Int) = (n : Int) - 1) := by omega
      clear hx
      rcases h3 with ⟨rfl, rfl⟩ | ⟨rfl, hk0, hk1⟩ | ⟨hx0, hk0, hk1⟩
      · go_wp2
        go_roundw
        case rel => exact ⟨0 + 1, by omega, by go_num, hB2⟩
        case measure => simp [intOf]; omega
      · have hk0b : ((k : Int) == 0) = false := by simpa using hk0
        have hk1b : ((k : Int) == (n : Int) - 1) = true := by simpa using hk1
        go_wp2
        go_roundw
        case rel => exact ⟨k + 1, by omega, by go_num, hB2⟩
        case measure => simp [intOf]; omega
      · have hx0b : (x == 0) = false := by simpa using hx0
        have hk0b : ((k : Int) == 0) = false := by simpa using hk0
        have hk1b : ((k : Int) == (n : Int) - 1) = false := by simpa using hk1
        go_wp2
        go_roundw
        case rel => exact ⟨k + 1, by omega, by go_num, hB2⟩
        case measure => simp [intOf]; omega
    · clear HP rdl rbl hgl hkl hB B11
      have hfm : f % 16 = 0 := (of_decide_eq_true hf).2.2
      obtain ⟨g, hg⟩ : ∃ g, f % 128 + 16 = g := ⟨_, rfl⟩
      have tm : f.tmod 128 = f % 128 := Int.tmod_eq_emod_of_nonneg (by omega)
      have hgf : g ≠ f := by omega
      have hgr : frB g = true := decide_eq_true (by omega)
      go_wp2_with fail
      refine (spoiledDrawn_any len1 cap1 w.heap.size a1 f _ (b1.below BW) BW.size hf).mono ?_
      rintro e wm ⟨t, rfl, ht, bm⟩
      have BM := BW.trans (bm.mono BW.size)
      obtain ⟨x, y, hs0, hi0⟩ := lintBoth t 4096 f [4096, 4200] (by unfold maxLen; omega) (by simp) (by decide) fw
      have HS : Hid (∀ (pc : Option Addr) (cc : Nat) (w : World), IntsAt w pc [4096, 4200] → Calls Tryz.prog 16 #[.string t, .int .i64 4096, .int .i64 f, .slice pc 2 cc] w fun e w' => TwoN w.heap.size x y w e w') := hs0
      have HI : Hid (∀ (pc : Option Addr) (cc : Nat) (w : World), Laid w → IntsAt w pc [4096, 4200] → Calls Tryz.prog 11 #[.string t, .int .i64 4096, .int .i64 f, .slice pc 2 cc] w fun e w' => TwoN w.heap.size x y w e w') := hi0
      clear hs0 hi0 bm BW b1
      go_wp2_with fail
      refine (HI.out _ _ _ (HL.out _ (BM.alloc BM.size _)) (ints_two wm 4096 4200 _)).mono ?_
      rintro e wn ⟨rfl, bn⟩
      have BN := (BM.alloc BM.size (.cells #[.int .i64 4096, .int .i64 4200] 3)).trans (bn.mono (by have := BM.size; simp; omega))
      clear HI bn BM
      go_wp2_with fail
      refine (HS.out _ _ _ (ints_two wn 4096 4200 _)).mono ?_
      rintro e wo ⟨rfl, bo⟩
      have BO := (BN.alloc BN.size (.cells #[.int .i64 4096, .int .i64 4200] 3)).trans (bo.mono (by have := BN.size; simp; omega))
      clear HS bo BN
      go_wp2_with fail
      refine (HO.out g _ (HL.out _ BO) hgf hgr).mono ?_
      rintro e wp ⟨rfl, bp⟩
      have BP := BO.trans (bp.mono BO.size)
      clear HO bp BO
      go_wp2
      go_ret
      exact ⟨rfl, BP⟩
end Go.Proofs.YtiandbhcjecphaaGreatDoor.Fu
