/- The program's look at objects: small questions. -/
import Derived.Test.YtdcjddiigipdmaaObjI1
namespace Go.Proofs.Ytdcjddiigipdmaa
open Go Go.RowKit
set_option linter.unusedVariables false

theorem lenI (n : Nat) (w : World) (hn : n ≤ maxLen) :
    Calls Try.prog 84 #[.int .i64 n, .int .i64 5] w fun e w' => e = .returned (.bool (codeB n)) ∧ w' = w := by
  unfold maxLen at hn
  have ht : (n : Int).tmod 4 = (n : Int) % 4 := Int.tmod_eq_emod_of_nonneg (by omega)
  by_cases h4 : n % 4 = 0
  · have h4' : (n : Int) % 4 = 0 := by omega
    by_cases h20 : 20 ≤ n
    · by_cases h256 : n ≤ 256
      · rw [show codeB n = true from by simp [codeB, h4, h20, h256]]
        go_enter Try.func84, Try.ntmps84
        go_wp2
        go_ret
        exact ⟨ret_bool (by first | rfl | (simp; done) | (simp; omega) | omega), rfl⟩
      · rw [show codeB n = false from by simp [codeB]; omega]
        go_enter Try.func84, Try.ntmps84
        go_wp2
        go_ret
        exact ⟨ret_bool (by first | rfl | (simp; done) | (simp; omega) | omega), rfl⟩
    · rw [show codeB n = false from by simp [codeB]; omega]
      go_enter Try.func84, Try.ntmps84
      go_wp2
      go_ret
      exact ⟨ret_bool (by first | rfl | (simp; done) | (simp; omega) | omega), rfl⟩
  · have h4' : ¬ (n : Int) % 4 = 0 := by omega
    have h4b : ((n : Int) % 4 == 0) = false := by simpa using h4'
    rw [show codeB n = false from by simp [codeB, h4]]
    go_enter Try.func84, Try.ntmps84
    go_wp2
    go_ret
    exact ⟨ret_bool (by first | rfl | (simp; done) | (simp; omega) | omega), rfl⟩

theorem unlessI (b : Bool) (c : Int) (w : World) :
    Calls Try.prog 56 #[.bool b, .int .i64 c] w fun e w' => e = .returned (.int .i64 (if b = true then 0 else c)) ∧ w' = w := by
  cases b with
  | true =>
    go_enter Try.func56, Try.ntmps56
    go_wp2
    go_ret
    exact ⟨rfl, rfl⟩
  | false =>
    go_enter Try.func56, Try.ntmps56
    go_wp2
    go_ret
    exact ⟨rfl, rfl⟩

theorem unitN_f {o : ObjD} {k : Nat} (h : k < o.nf) : unitN o k = ((o.F k).cd.size : Int) / 4 := by
  unfold unitN
  rw [if_neg (by omega), if_pos (by omega)]
  simp
theorem unitN_d {o : ObjD} {k : Nat} (h : k < o.nd) : unitN o ((o.nf : Int) + k) = ((o.D k).bs.size : Int) / 8 := by
  unfold unitN
  rw [if_neg (by omega), if_neg (by omega)]
  have e : ((o.nf : Int) + k).toNat - o.nf = k := by omega
  rw [e]
theorem unitN_no {o : ObjD} {u : Int} (h : u < 0 ∨ (o.nf + o.nd : Nat) ≤ u) : unitN o u = 0 := by unfold unitN; rw [if_pos h]

set_option maxRecDepth 100000 in
set_option maxHeartbeats 2000000 in
theorem placesI (q : ObjPt) (o : ObjD) (u : Int) (w : World) (hu : (Lit.int .i64 u).wf = true) (hf : o.nf ≤ 2000000) (hd : o.nd ≤ 2000000) (hw : o.wf) (hp : ObjAt w q o) :
    Calls Try.prog 55 #[.agg (objC o q), .int .i64 u] w fun e w' => e = .returned (.int .i64 (unitN o u)) ∧ Below w.heap.size w w' := by
  obtain ⟨pf, cf, pd, cd, pr, cr, ps, cs⟩ := q
  have bA := grown1' w (.cells (objC o ⟨pf, cf, pd, cd, pr, cr, ps, cs⟩) 36)
  have lA := Lies.new w (objC o ⟨pf, cf, pd, cd, pr, cr, ps, cs⟩) 36
  have hpA := hp.below bA
  have HA : Hid (Below w.heap.size w _) := bA
  have HL : Hid (Lies _ w.heap.size 36 _) := lA
  have hlt := lA.lt
  have hsum : IntKind.i64.wrap ((o.nf : Int) + o.nd) = (o.nf : Int) + o.nd := by rw [IntKind.wrap_i64]; omega
  clear bA hp lA hu
  by_cases h1 : 0 ≤ u ∧ u < o.nf
  · obtain ⟨k, rfl⟩ : ∃ k : Nat, u = k := ⟨u.toNat, by omega⟩
    have hk : k < o.nf := by omega
    rw [unitN_f hk]
    have hwk := (hw.f k hk).2.2
    unfold maxLen at hwk
    rcases hpA.f with h | ⟨b, oo, hpf, hb, hv⟩
    · omega
    have hpf' : pf = some (⟨b, oo, none⟩ : Addr) := hpf
    clear hpf
    subst hpf'
    have HV : Hid (VRow _ b oo (o.nf * 4) (funV o.F)) := hv
    obtain ⟨s, es⟩ : ∃ s, (o.F k).cd = s := ⟨_, rfl⟩
    rw [es] at hwk ⊢
    have HES : Hid (_ = s) := es
    have hq : ((s.size : Int)).tdiv 4 = (s.size : Int) / 4 := Int.tdiv_eq_ediv_of_nonneg (by omega)
    have ub : decide ((k : Int) < o.nf) = true := by simpa using hk
    have g1 : ¬ ((o.nf : Int) + o.nd ≤ k) := by omega
    clear hpA hv hw es h1
    go_enter Try.func55, Try.ntmps55
    go_wp2_with fail
    refine (isFnI ⟨some ⟨b, oo, none⟩, cf, pd, cd, pr, cr, ps, cs⟩ o _ _).mono ?_
    rintro e w1 ⟨rfl, hb1⟩
    have x0 := ((HV.out.below hb1 hb).fun hk).2.2.2
    rw [HES.out] at x0
    have l1 := HL.out.below hb1 hlt
    have i2 := obj2 l1
    have HB : Hid (Below w.heap.size w w1) := HA.out.trans (hb1.mono HA.out.size)
    clear hb1 hb l1 HA HL HV
    rw [ub]
    go_wp2_with fail
    go_ret
    exact ⟨by first | rfl | (congr 2; omega), HB.out⟩
  by_cases h2 : 0 ≤ u ∧ u < (o.nf + o.nd : Nat)
  · obtain ⟨k, rfl⟩ : ∃ k : Nat, u = (o.nf : Int) + k := ⟨(u - o.nf).toNat, by omega⟩
    have hk : k < o.nd := by omega
    rw [unitN_d hk]
    have hwk := (hw.d k hk).2
    unfold maxLen at hwk
    rcases hpA.d with h | ⟨b, oo, hpf, hb, hv⟩
    · omega
    have hpf' : pd = some (⟨b, oo, none⟩ : Addr) := hpf
    clear hpf
    subst hpf'
    have HV : Hid (VRow _ b oo (o.nd * 2) (datV o.D)) := hv
    obtain ⟨s, es⟩ : ∃ s, (o.D k).bs = s := ⟨_, rfl⟩
    rw [es] at hwk ⊢
    have HES : Hid (_ = s) := es
    have hq : ((s.size : Int)).tdiv 8 = (s.size : Int) / 8 := Int.tdiv_eq_ediv_of_nonneg (by omega)
    have hsub : IntKind.i64.wrap ((o.nf : Int) + k - o.nf) = k := by rw [IntKind.wrap_i64]; omega
    have hk2 : IntKind.i64.wrap (k : Int) = k := by rw [IntKind.wrap_i64]; omega
    have ub : decide ((o.nf : Int) + (k : Int) < o.nf) = false := decide_eq_false (by omega)
    have g1 : ¬ ((o.nf : Int) + o.nd ≤ (o.nf : Int) + k) := by omega
    have g2 : ¬ ((o.nf : Int) + k < 0) := by omega
    clear hpA hv hw es h1 h2
    go_enter Try.func55, Try.ntmps55
    go_wp2_with fail
    refine (isFnI ⟨pf, cf, some ⟨b, oo, none⟩, cd, pr, cr, ps, cs⟩ o _ _).mono ?_
    rintro e w1 ⟨rfl, hb1⟩
    have x0 := ((HV.out.below hb1 hb).dat hk).2
    rw [HES.out] at x0
    have l1 := HL.out.below hb1 hlt
    have i2 := obj2 l1
    have i3 := obj3 l1
    have HB : Hid (Below w.heap.size w w1) := HA.out.trans (hb1.mono HA.out.size)
    clear hb1 hb l1 HA HL HV
    rw [ub]
    go_wp2_with fail
    go_ret
    exact ⟨by first | rfl | (congr 2; omega), HB.out⟩
  · rw [unitN_no (by omega)]
    clear hpA hw
    have key : u < 0 ∨ (¬ u < 0 ∧ (o.nf : Int) + o.nd ≤ u) := by omega
    clear h1 h2
    rcases key with k | ⟨k, l⟩
    all_goals
      go_enter Try.func55, Try.ntmps55
      go_wp2_with fail
      go_ret
      exact ⟨rfl, HA.out⟩

theorem mayI (q : ObjPt) (o : ObjD) (u k : Int) (w : World) :
    Calls Try.prog 85 #[.agg (objC o q), .int .i64 u, .int .i64 k] w fun e w' => e = .returned (.bool (mayB o u k)) ∧ Below w.heap.size w w' := by
  have bA := grown1' w (.cells (objC o q) 36)
  have HA : Hid (Below w.heap.size w _) := bA
  clear bA
  by_cases hu : u < o.nf
  · have ub : decide (u < (o.nf : Int)) = true := by simpa using hu
    rw [show mayB o u k = decide (1 ≤ k ∧ k ≤ 8) from by unfold mayB; rw [if_pos hu]]
    by_cases h1 : 1 ≤ k
    · go_enter Try.func85, Try.ntmps85
      go_wp2_with fail
      refine (isFnI q o _ _).mono ?_
      rintro e w1 ⟨rfl, hb1⟩
      have HB : Hid (Below w.heap.size w w1) := HA.out.trans (hb1.mono HA.out.size)
      clear hb1 HA
      rw [ub]
      go_wp2_with fail
      go_ret
      exact ⟨ret_bool (by first | rfl | (rw [decide_eq_decide]; omega) | (simp; omega)), HB.out⟩
    · go_enter Try.func85, Try.ntmps85
      go_wp2_with fail
      refine (isFnI q o _ _).mono ?_
      rintro e w1 ⟨rfl, hb1⟩
      have HB : Hid (Below w.heap.size w w1) := HA.out.trans (hb1.mono HA.out.size)
      clear hb1 HA
      rw [ub]
      go_wp2_with fail
      go_ret
      exact ⟨ret_bool (by first | rfl | (rw [decide_eq_decide]; omega) | (simp; omega)), HB.out⟩
  · have ub : decide (u < (o.nf : Int)) = false := by simpa using hu
    rw [show mayB o u k = decide (k = 9) from by unfold mayB; rw [if_neg hu]]
    go_enter Try.func85, Try.ntmps85
    go_wp2_with fail
    refine (isFnI q o _ _).mono ?_
    rintro e w1 ⟨rfl, hb1⟩
    have HB : Hid (Below w.heap.size w w1) := HA.out.trans (hb1.mono HA.out.size)
    clear hb1 HA
    rw [ub]
    go_wp2_with fail
    go_ret
    exact ⟨ret_bool (by first | rfl | simp), HB.out⟩

theorem nanI (a : Int) (w : World) :
    Calls Try.prog 126 #[.int .i64 a] w fun e w' => e = .returned (.bool false) ∧ w' = w := by
  go_enter Try.func126, Try.ntmps126
  go_wp2
  go_ret
  exact ⟨ret_bool (by simp), rfl⟩
/-- What cmp.Compare tells. -/
def cmpV (a b : Int) : Int := if a < b then -1 else if b < a then 1 else 0
theorem cmpI (a b : Int) (w : World) :
    Calls Try.prog 121 #[.int .i64 a, .int .i64 b] w fun e w' => e = .returned (.int .i64 (cmpV a b)) ∧ w' = w := by
  unfold cmpV
  rcases Int.lt_trichotomy a b with h | rfl | h
  · rw [if_pos h]
    go_enter Try.func121, Try.ntmps121
    go_wp2_with (go_at_call 126; refine (nanI _ _).mono ?_; rintro e w' ⟨rfl, rfl⟩)
    go_ret
    exact ⟨rfl, rfl⟩
  · rw [if_neg (Int.lt_irrefl _), if_neg (Int.lt_irrefl _)]
    go_enter Try.func121, Try.ntmps121
    go_wp2_with (go_at_call 126; refine (nanI _ _).mono ?_; rintro e w' ⟨rfl, rfl⟩)
    go_ret
    exact ⟨rfl, rfl⟩
  · rw [if_neg (by omega), if_pos h]
    go_enter Try.func121, Try.ntmps121
    go_wp2_with (go_at_call 126; refine (nanI _ _).mono ?_; rintro e w' ⟨rfl, rfl⟩)
    go_ret
    exact ⟨rfl, rfl⟩
theorem orI (g : Nat) (x y : Int) (w : World) (c0 : w.cell? ⟨g, 0, none⟩ = some (.int .i64 x)) (c1 : w.cell? ⟨g, 0 + 1, none⟩ = some (.int .i64 y)) :
    Calls Try.prog 120 #[.slice (some ⟨g, 0, none⟩) 2 2] w fun e w' => e = .returned (.int .i64 (if x = 0 then y else x)) ∧ w' = w := by
  go_enter Try.func120, Try.ntmps120
  go_wp2
  go_loopw [8] (fun i wr => ∃ k : Nat, k ≤ 2 ∧ i = .int .i64 k ∧ (0 < k → x = 0) ∧ (1 < k → y = 0) ∧ wr = w) (fun i _ => 2 - (intOf i).toNat)
  case atStart => exact ⟨0, by omega, rfl, by omega, by omega, by first | rfl | trivial⟩
  case round =>
    obtain ⟨k, hk, rfl, h0, h1, rfl⟩ := hrel
    have hk' : k = 0 ∨ k = 1 ∨ k = 2 := by omega
    rcases hk' with rfl | rfl | rfl
    · by_cases e : x = 0
      · subst e
        go_wp2
        go_roundw
        case rel => exact ⟨1, by omega, by go_num, by simp, by simp, by first | rfl | trivial⟩
        case measure => simp [intOf]
      · have eb : (x != 0) = true := by simpa using e
        go_wp2
        go_ret
        exact ⟨by first | rfl | (rw [if_neg e]; done) | (simp [e]; done), by first | rfl | trivial⟩
    · obtain rfl := h0 (by omega)
      by_cases e : y = 0
      · subst e
        go_wp2
        go_roundw
        case rel => exact ⟨2, by omega, by go_num, by simp, by simp, by first | rfl | trivial⟩
        case measure => simp [intOf]
      · have eb : (y != 0) = true := by simpa using e
        go_wp2
        go_ret
        exact ⟨by first | rfl | (simp; done), by first | rfl | trivial⟩
    · obtain rfl := h0 (by omega)
      obtain rfl := h1 (by omega)
      go_wp2
      go_ret
      exact ⟨by first | rfl | (simp; done), by first | rfl | trivial⟩
end Go.Proofs.Ytdcjddiigipdmaa
