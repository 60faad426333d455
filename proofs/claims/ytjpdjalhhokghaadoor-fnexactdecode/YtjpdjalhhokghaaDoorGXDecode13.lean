/- When the model takes a word: plain; what it takes: the contract. Decode of the model: contracts. -/
import Derived.Test.YtjpdjalhhokghaaDoorGXDecode7
import Derived.Test.YtjpdjalhhokghaaDoorGXEncode12
import Derived.Test.YtjpdjalhhokghaaDoorGXDecode1
import Derived.Test.YtjpdjalhhokghaaDoorGXDecode8
import Derived.Test.YtjpdjalhhokghaaDoorGXDecode9
import Derived.Test.YtjpdjalhhokghaaDoorGXDecode10
import Derived.Test.YtjpdjalhhokghaaDoorGXDecode11
import Derived.Test.YtjpdjalhhokghaaDoorGXDecode12
namespace Go.Proofs.YtjpdjalhhokghaaDoor
open Go.RowKit
set_option linter.unusedVariables false

theorem hit_all (k v f c g h : Int) (k0 : 1 ≤ k) (k1 : k ≤ 64) (v0 : 0 ≤ v) (v1 : v < 4294967296) (hs : shT k = (f, c, g, h)) :
    HitP k v ↔ (v % 128 = c ∧ (3 ≤ f ∧ f ≤ 8 → v / 4096 % 8 = g) ∧ encW f c g h (tkRd f v) (tkR1 f v) (tkR2 f v) (takeF f v) = v) := by
  have hok : shOK f c g h = true := by
    have := shT_ok k k0 k1
    rw [hs] at this
    exact this
  obtain ⟨f0, f1, c0, c1, g0, g1, h0, h1⟩ := sh_bounds hok
  obtain ⟨m1, m2, m3, m4, m5, m9⟩ := sh_more hok
  unfold HitP
  rw [hs]
  rcases (show f = 1 ∨ f = 2 ∨ f = 3 ∨ f = 4 ∨ f = 5 ∨ f = 6 ∨ f = 7 ∨ f = 8 ∨ f = 9 by omega) with rfl | rfl | rfl | rfl | rfl | rfl | rfl | rfl | rfl
  · obtain ⟨rfl, rfl⟩ := m1 rfl
    have H := hit1 c v v0 v1
    show v % 128 = c ↔ _
    rw [show tkRd 1 v = v / 128 % 32 from rfl, show tkR1 1 v = 0 from rfl, show tkR2 1 v = 0 from rfl]
    constructor
    · intro e; exact ⟨e, fun hf => absurd hf.1 (by decide), (H.2 e).2⟩
    · intro e; exact e.1
  · obtain ⟨rfl, rfl⟩ := m2 rfl
    have H := hit2 c v v0 v1
    show v % 128 = c ↔ _
    rw [show tkRd 2 v = v / 128 % 32 from rfl, show tkR1 2 v = 0 from rfl, show tkR2 2 v = 0 from rfl]
    constructor
    · intro e; exact ⟨e, fun hf => absurd hf.1 (by decide), (H.2 e).2⟩
    · intro e; exact e.1
  · obtain rfl := m3 rfl
    have H := hit3 c g v v0 v1
    show v % 128 = c ∧ v / 4096 % 8 = g ↔ _
    rw [show tkRd 3 v = v / 128 % 32 from rfl, show tkR1 3 v = v / 32768 % 32 from rfl, show tkR2 3 v = 0 from rfl]
    constructor
    · intro e; exact ⟨e.1, fun _ => e.2, (H.2 e).2.2⟩
    · intro e; exact ⟨e.1, e.2.1 (by decide)⟩
  · obtain rfl := m4 rfl
    have H := hit4 c g v v0 v1
    show v % 128 = c ∧ v / 4096 % 8 = g ↔ _
    rw [show tkRd 4 v = 0 from rfl, show tkR1 4 v = v / 32768 % 32 from rfl, show tkR2 4 v = v / 1048576 % 32 from rfl]
    constructor
    · intro e; exact ⟨e.1, fun _ => e.2, (H.2 e).2.2⟩
    · intro e; exact ⟨e.1, e.2.1 (by decide)⟩
  · obtain rfl := m5 rfl
    have H := hit5 c g v v0 v1
    show v % 128 = c ∧ v / 4096 % 8 = g ↔ _
    rw [show tkRd 5 v = 0 from rfl, show tkR1 5 v = v / 32768 % 32 from rfl, show tkR2 5 v = v / 1048576 % 32 from rfl]
    constructor
    · intro e; exact ⟨e.1, fun _ => e.2, (H.2 e).2.2⟩
    · intro e; exact ⟨e.1, e.2.1 (by decide)⟩
  · have H := hit6 c g h v v0 v1 h0 h1
    show v % 128 = c ∧ v / 4096 % 8 = g ∧ v / 67108864 = h / 2 ↔ _
    rw [show tkRd 6 v = v / 128 % 32 from rfl, show tkR1 6 v = v / 32768 % 32 from rfl, show tkR2 6 v = 0 from rfl]
    constructor
    · intro e; exact ⟨e.1, fun _ => e.2.1, (H.2 e).2.2⟩
    · intro e; exact H.1 ⟨e.1, e.2.1 (by decide), e.2.2⟩
  · have H := hit7 c g h v v0 v1 h0 h1
    show v % 128 = c ∧ v / 4096 % 8 = g ∧ v / 33554432 = h ↔ _
    rw [show tkRd 7 v = v / 128 % 32 from rfl, show tkR1 7 v = v / 32768 % 32 from rfl, show tkR2 7 v = 0 from rfl]
    constructor
    · intro e; exact ⟨e.1, fun _ => e.2.1, (H.2 e).2.2⟩
    · intro e; exact H.1 ⟨e.1, e.2.1 (by decide), e.2.2⟩
  · have H := hit8 c g h v v0 v1 h0 h1
    show v % 128 = c ∧ v / 4096 % 8 = g ∧ v / 33554432 = h ↔ _
    rw [show tkRd 8 v = v / 128 % 32 from rfl, show tkR1 8 v = v / 32768 % 32 from rfl, show tkR2 8 v = v / 1048576 % 32 from rfl]
    constructor
    · intro e; exact ⟨e.1, fun _ => e.2.1, (H.2 e).2.2⟩
    · intro e; exact H.1 ⟨e.1, e.2.1 (by decide), e.2.2⟩
  · obtain rfl := m9 rfl
    show v = c + 0 * 4096 + h * 1048576 ↔ _
    have e9 : encW 9 c 0 h (tkRd 9 v) (tkR1 9 v) (tkR2 9 v) (takeF 9 v) = c + h * 1048576 := by
      show c + 0 * 4096 + h * 1048576 + 0 * 128 + 0 * 32768 + 0 * 1048576 + 0 = c + h * 1048576
      omega
    rw [e9]
    constructor
    · intro e; exact ⟨by omega, fun hf => absurd hf.2 (by decide), by omega⟩
    · intro e; have := e.2.2; omega

theorem tksC (op f v c g h : Int) (v0 : 0 ≤ v) (v1 : v < 4294967296) (f0 : 1 ≤ f) (f1 : f ≤ 9) (hs : shT op = (f, c, g, h)) (w : World) :
    Calls Tryd.prog 105 #[.int .i64 op, .int .i64 v] w fun e w' => e = .returned (itV op f v) ∧ Below w.heap.size w w' := by
  unfold itV
  rcases (show f = 1 ∨ f = 2 ∨ f = 3 ∨ f = 4 ∨ f = 5 ∨ f = 6 ∨ f = 7 ∨ f = 8 ∨ f = 9 by omega) with rfl | rfl | rfl | rfl | rfl | rfl | rfl | rfl | rfl
  · exact tks1 op v c g h v0 v1 hs w
  · exact tks2 op v c g h v0 v1 hs w
  · exact tks3 op v c g h v0 v1 hs w
  · exact tks4 op v c g h v0 v1 hs w
  · exact tks5 op v c g h v0 v1 hs w
  · exact tks6 op v c g h v0 v1 hs w
  · exact tks7 op v c g h v0 v1 hs w
  · exact tks8 op v c g h v0 v1 hs w
  · exact tks9 op v c g h v0 v1 hs w
end Go.Proofs.YtjpdjalhhokghaaDoor

namespace Go.Proofs.YtjpdjalhhokghaaDoor
open Go.RowKit
set_option linter.unusedVariables false

theorem specShCs (op f c g h : Int) (w : World) (hs : shT op = (f, c, g, h)) :
    Calls Tryd.prog 63 #[.int .i64 op] w fun e w' => e = .returned (.agg #[.int .i64 f, .int .i64 c, .int .i64 g, .int .i64 h]) ∧ Below w.heap.size w w' := by
  have := specShC op w
  rw [hs] at this
  exact this

set_option maxRecDepth 100000 in
set_option maxHeartbeats 8000000 in
theorem dmNone (v : Int) (v0 : 0 ≤ v) (v1 : v < 4294967296) (HX0 : Hid (∀ j : Nat, 1 ≤ j → j ≤ 64 → ¬ HitP j v)) (w : World) :
    Calls Tryd.prog 74 #[.int .i64 v] w fun e w' => e = .returned (.tuple #[it0, .bool false]) ∧ Below w.heap.size w w' := by
  go_enter Tryd.func74, Tryd.ntmps74
  go_wp2
  go_loopw [4] (fun t wr => ∃ k : Nat, 1 ≤ k ∧ k ≤ 65 ∧ t = .int .i64 k ∧ Below w.heap.size w wr ∧ w.heap.size + 1 ≤ wr.heap.size ∧ Five wr w.heap.size 0 0 0 0 0) (fun t _ => 65 - (intOf t).toNat)
  case atStart => exact ⟨1, Nat.le_refl _, by omega, rfl, (Below.refl _ _).alloc (Nat.le_refl _) _, by simp, by constructor <;> simp⟩
  case round =>
    obtain ⟨k, hk0, hkn, rfl, hbel, hsz, hR⟩ := hrel
    by_cases hlt : k ≤ 64
    · have hk64 : (k : Int) ≤ 64 := by omega
      have hnk := HX0.out k hk0 hlt
      obtain ⟨⟨f, c, g, h⟩, hs⟩ : ∃ s, s = shT (k : Int) := ⟨_, rfl⟩
      have htest := hit_all k v f c g h (by omega) (by omega) v0 v1 hs.symm
      obtain ⟨⟨f0, f1, _⟩, _⟩ := dec_test k v (by omega) (by omega) v0 v1 f c g h hs.symm
      have HS : Hid (shT (k : Int) = (f, c, g, h)) := hs.symm
      have HR : Hid (rightB k (tkRd f v) (tkR1 f v) (tkR2 f v) (takeF f v) = true) := by
        show _ = _
        unfold rightB
        rw [HS.out, right_taken f v f0 f1, Bool.and_true]
        exact decide_eq_true ⟨by omega, by omega⟩
      clear hs
      go_wp2_with fail
      refine (specShCs k f c g h _ HS.out).mono ?_
      rintro e w3 ⟨rfl, hb3⟩
      have z3 : w.heap.size + 1 ≤ w3.heap.size := Nat.le_trans hsz hb3.size
      have B3 : Below w.heap.size w w3 := hbel.trans (hb3.mono (by omega))
      have R3 := hR.below hb3 (by omega)
      clear hb3 hbel hR hsz
      by_cases a1 : v % 128 = c
      case neg =>
        have b1 : ¬ c = v % 128 := fun e => a1 e.symm
        clear htest HS HR HX0 a1 hnk
        go_wp2
        go_roundw
        case rel => exact ⟨k + 1, by omega, by omega, by go_num, B3.alloc B3.size _, by simp; omega, R3.below ((Below.refl w3.heap.size w3).alloc (Nat.le_refl _) _) (by omega)⟩
        case measure => simp [intOf]; omega
      subst a1
      by_cases a2 : 3 ≤ f ∧ f ≤ 8
      · by_cases a3 : v / 4096 % 8 = g
        case neg =>
          have b3 : ¬ g = v / 4096 % 8 := fun e => a3 e.symm
          clear htest HS HR HX0 hnk a3
          go_wp2_with fail
          refine (spIn f 3 8 _ true (.inl ⟨rfl, a2.1, a2.2⟩)).mono ?_
          rintro e w4 ⟨rfl, rfl⟩
          clear a2
          go_wp2
          go_roundw
          case rel => exact ⟨k + 1, by omega, by omega, by go_num, B3.alloc B3.size _, by simp; omega, R3.below ((Below.refl w3.heap.size w3).alloc (Nat.le_refl _) _) (by omega)⟩
          case measure => simp [intOf]; omega
        have hne : ¬ encW f (v % 128) g h (tkRd f v) (tkR1 f v) (tkR2 f v) (takeF f v) = v := fun e => hnk (htest.2 ⟨rfl, fun _ => a3, e⟩)
        clear htest hnk HX0
        subst a3
        go_wp2_with fail
        refine (spIn f 3 8 _ true (.inl ⟨rfl, a2.1, a2.2⟩)).mono ?_
        rintro e w4 ⟨rfl, rfl⟩
        clear a2
        go_wp2_with fail
        refine (tksC k f v _ _ h v0 v1 f0 f1 HS.out _).mono ?_
        rintro e w5 ⟨rfl, hb5⟩
        have z5 : w.heap.size + 1 ≤ w5.heap.size := by have := hb5.size; simp at this; omega
        have B5 : Below w.heap.size w w5 := (B3.alloc B3.size _).trans (hb5.mono (by simp; omega))
        have R5 : Five w5 w.heap.size 0 0 0 0 0 := (R3.below ((Below.refl w3.heap.size w3).alloc (Nat.le_refl _) _) (by omega)).below hb5 (by simp; omega)
        clear hb5 B3 R3 z3
        unfold itV
        have XX : Hid (∀ x1 x2 x3 x4 : Int, Five (w5.alloc (.cells #[.int .i64 (k : Int), .int .i64 x1, .int .i64 x2, .int .i64 x3, .int .i64 x4] 44)) w5.heap.size k x1 x2 x3 x4) := fun x1 x2 x3 x4 => by constructor <;> simp
        go_wp2_with fail
        refine (rightC k (tkRd f v) (tkR1 f v) (tkR2 f v) (takeF f v) _).mono ?_
        rintro e w6 ⟨rfl, hb6⟩
        rw [HR.out]
        have X6 := (XX.out (tkRd f v) (tkR1 f v) (tkR2 f v) (takeF f v)).below hb6 (by simp)
        have z6 : w5.heap.size + 1 ≤ w6.heap.size := by have := hb6.size; simp at this; omega
        have B6 : Below w.heap.size w w6 := (B5.alloc B5.size _).trans (hb6.mono (by simp; omega))
        have R6 : Five w6 w.heap.size 0 0 0 0 0 := (R5.below ((Below.refl w5.heap.size w5).alloc (Nat.le_refl _) _) (by omega)).below hb6 (by simp; omega)
        clear hb6 B5 R5 XX
        obtain ⟨p0, p1, p2, p3, p4, _, _, _, _, _⟩ := X6
        have X6 : Hid (Five w6 w5.heap.size k (tkRd f v) (tkR1 f v) (tkR2 f v) (takeF f v)) := ⟨p0, p1, p2, p3, p4, by assumption, by assumption, by assumption, by assumption, by assumption⟩
        go_wp2_with fail
        refine (specEncYes k (tkRd f v) (tkR1 f v) (tkR2 f v) (takeF f v) f _ _ h _ HR.out HS.out).mono ?_
        rintro e w7 ⟨rfl, hb7⟩
        have X7 := X6.out.below hb7 (by omega)
        have z7 : w.heap.size + 1 ≤ w7.heap.size := by have := hb7.size; omega
        have B7 : Below w.heap.size w w7 := B6.trans (hb7.mono (by omega))
        have R7 : Five w7 w.heap.size 0 0 0 0 0 := R6.below hb7 (by omega)
        clear hb7 B6 R6 X6 p0 p1 p2 p3 p4 z6 z5 HS HR
        clear X7
        go_wp2
        go_roundw
        case rel => exact ⟨k + 1, by omega, by omega, by go_num, B7, by omega, R7⟩
        case measure => simp [intOf]; omega
      · have a2' : f < 3 ∨ 8 < f := by omega
        have hne : ¬ encW f (v % 128) g h (tkRd f v) (tkR1 f v) (tkR2 f v) (takeF f v) = v := fun e => hnk (htest.2 ⟨rfl, fun hf => absurd hf a2, e⟩)
        clear htest hnk a2 HX0
        go_wp2_with fail
        refine (spIn f 3 8 _ false (.inr ⟨rfl, a2'⟩)).mono ?_
        rintro e w4 ⟨rfl, rfl⟩
        clear a2'
        go_wp2_with fail
        refine (tksC k f v _ _ h v0 v1 f0 f1 HS.out _).mono ?_
        rintro e w5 ⟨rfl, hb5⟩
        have z5 : w.heap.size + 1 ≤ w5.heap.size := by have := hb5.size; simp at this; omega
        have B5 : Below w.heap.size w w5 := (B3.alloc B3.size _).trans (hb5.mono (by simp; omega))
        have R5 : Five w5 w.heap.size 0 0 0 0 0 := (R3.below ((Below.refl w3.heap.size w3).alloc (Nat.le_refl _) _) (by omega)).below hb5 (by simp; omega)
        clear hb5 B3 R3 z3
        unfold itV
        have XX : Hid (∀ x1 x2 x3 x4 : Int, Five (w5.alloc (.cells #[.int .i64 (k : Int), .int .i64 x1, .int .i64 x2, .int .i64 x3, .int .i64 x4] 44)) w5.heap.size k x1 x2 x3 x4) := fun x1 x2 x3 x4 => by constructor <;> simp
        go_wp2_with fail
        refine (rightC k (tkRd f v) (tkR1 f v) (tkR2 f v) (takeF f v) _).mono ?_
        rintro e w6 ⟨rfl, hb6⟩
        rw [HR.out]
        have X6 := (XX.out (tkRd f v) (tkR1 f v) (tkR2 f v) (takeF f v)).below hb6 (by simp)
        have z6 : w5.heap.size + 1 ≤ w6.heap.size := by have := hb6.size; simp at this; omega
        have B6 : Below w.heap.size w w6 := (B5.alloc B5.size _).trans (hb6.mono (by simp; omega))
        have R6 : Five w6 w.heap.size 0 0 0 0 0 := (R5.below ((Below.refl w5.heap.size w5).alloc (Nat.le_refl _) _) (by omega)).below hb6 (by simp; omega)
        clear hb6 B5 R5 XX
        obtain ⟨p0, p1, p2, p3, p4, _, _, _, _, _⟩ := X6
        have X6 : Hid (Five w6 w5.heap.size k (tkRd f v) (tkR1 f v) (tkR2 f v) (takeF f v)) := ⟨p0, p1, p2, p3, p4, by assumption, by assumption, by assumption, by assumption, by assumption⟩
        go_wp2_with fail
        refine (specEncYes k (tkRd f v) (tkR1 f v) (tkR2 f v) (takeF f v) f _ _ h _ HR.out HS.out).mono ?_
        rintro e w7 ⟨rfl, hb7⟩
        have X7 := X6.out.below hb7 (by omega)
        have z7 : w.heap.size + 1 ≤ w7.heap.size := by have := hb7.size; omega
        have B7 : Below w.heap.size w w7 := B6.trans (hb7.mono (by omega))
        have R7 : Five w7 w.heap.size 0 0 0 0 0 := R6.below hb7 (by omega)
        clear hb7 B6 R6 X6 p0 p1 p2 p3 p4 z6 z5 HS HR
        clear X7
        go_wp2
        go_roundw
        case rel => exact ⟨k + 1, by omega, by omega, by go_num, B7, by omega, R7⟩
        case measure => simp [intOf]; omega
    · obtain rfl : k = 65 := by omega
      obtain ⟨d0, d1, d2, d3, d4, g0, g1, g2, g3, g4⟩ := hR
      clear HX0
      go_wp2
      refine bodyPost_ret (v := .tuple #[.agg #[.int .i64 0, .int .i64 0, .int .i64 0, .int .i64 0, .int .i64 0], .bool false]) (by simp [results, Tryd.results74, go_sem, d0, d1, d2, d3, d4]) rfl ⟨rfl, ?_⟩
      repeat (first | with_reducible exact hbel | refine Below.setCell ?_ (by first | omega | (simp; done) | (simp; omega)) _)

set_option maxRecDepth 100000 in
set_option maxHeartbeats 8000000 in
theorem dmYes (v : Int) (v0 : 0 ≤ v) (v1 : v < 4294967296) (n : Nat) (n0 : 1 ≤ n) (n1 : n ≤ 64) (HX0 : Hid (∀ j : Nat, 1 ≤ j → j < n → ¬ HitP j v)) (hyes : Hid (HitP n v)) (F : Int) (hF : Hid ((shT n).1 = F)) (w : World) :
    Calls Tryd.prog 74 #[.int .i64 v] w fun e w' => e = .returned (.tuple #[itV n F v, .bool true]) ∧ Below w.heap.size w w' := by
  go_enter Tryd.func74, Tryd.ntmps74
  go_wp2
  go_loopw [4] (fun t wr => ∃ k : Nat, 1 ≤ k ∧ k ≤ n ∧ t = .int .i64 k ∧ Below w.heap.size w wr ∧ w.heap.size + 1 ≤ wr.heap.size ∧ Five wr w.heap.size 0 0 0 0 0) (fun t _ => n - (intOf t).toNat)
  case atStart => exact ⟨1, Nat.le_refl _, by omega, rfl, (Below.refl _ _).alloc (Nat.le_refl _) _, by simp, by constructor <;> simp⟩
  case round =>
    obtain ⟨k, hk0, hkn, rfl, hbel, hsz, hR⟩ := hrel
    have hk64 : (k : Int) ≤ 64 := by omega
    by_cases hlt : k < n
    · have hnk := HX0.out k hk0 hlt
      clear hyes hF
      obtain ⟨⟨f, c, g, h⟩, hs⟩ : ∃ s, s = shT (k : Int) := ⟨_, rfl⟩
      have htest := hit_all k v f c g h (by omega) (by omega) v0 v1 hs.symm
      obtain ⟨⟨f0, f1, _⟩, _⟩ := dec_test k v (by omega) (by omega) v0 v1 f c g h hs.symm
      have HS : Hid (shT (k : Int) = (f, c, g, h)) := hs.symm
      have HR : Hid (rightB k (tkRd f v) (tkR1 f v) (tkR2 f v) (takeF f v) = true) := by
        show _ = _
        unfold rightB
        rw [HS.out, right_taken f v f0 f1, Bool.and_true]
        exact decide_eq_true ⟨by omega, by omega⟩
      clear hs
      go_wp2_with fail
      refine (specShCs k f c g h _ HS.out).mono ?_
      rintro e w3 ⟨rfl, hb3⟩
      have z3 : w.heap.size + 1 ≤ w3.heap.size := Nat.le_trans hsz hb3.size
      have B3 : Below w.heap.size w w3 := hbel.trans (hb3.mono (by omega))
      have R3 := hR.below hb3 (by omega)
      clear hb3 hbel hR hsz
      by_cases a1 : v % 128 = c
      case neg =>
        have b1 : ¬ c = v % 128 := fun e => a1 e.symm
        clear htest HS HR HX0 a1 hnk
        go_wp2
        go_roundw
        case rel => exact ⟨k + 1, by omega, by omega, by go_num, B3.alloc B3.size _, by simp; omega, R3.below ((Below.refl w3.heap.size w3).alloc (Nat.le_refl _) _) (by omega)⟩
        case measure => simp [intOf]; omega
      subst a1
      by_cases a2 : 3 ≤ f ∧ f ≤ 8
      · by_cases a3 : v / 4096 % 8 = g
        case neg =>
          have b3 : ¬ g = v / 4096 % 8 := fun e => a3 e.symm
          clear htest HS HR HX0 hnk a3
          go_wp2_with fail
          refine (spIn f 3 8 _ true (.inl ⟨rfl, a2.1, a2.2⟩)).mono ?_
          rintro e w4 ⟨rfl, rfl⟩
          clear a2
          go_wp2
          go_roundw
          case rel => exact ⟨k + 1, by omega, by omega, by go_num, B3.alloc B3.size _, by simp; omega, R3.below ((Below.refl w3.heap.size w3).alloc (Nat.le_refl _) _) (by omega)⟩
          case measure => simp [intOf]; omega
        have hne : ¬ encW f (v % 128) g h (tkRd f v) (tkR1 f v) (tkR2 f v) (takeF f v) = v := fun e => hnk (htest.2 ⟨rfl, fun _ => a3, e⟩)
        clear htest hnk HX0
        subst a3
        go_wp2_with fail
        refine (spIn f 3 8 _ true (.inl ⟨rfl, a2.1, a2.2⟩)).mono ?_
        rintro e w4 ⟨rfl, rfl⟩
        clear a2
        go_wp2_with fail
        refine (tksC k f v _ _ h v0 v1 f0 f1 HS.out _).mono ?_
        rintro e w5 ⟨rfl, hb5⟩
        have z5 : w.heap.size + 1 ≤ w5.heap.size := by have := hb5.size; simp at this; omega
        have B5 : Below w.heap.size w w5 := (B3.alloc B3.size _).trans (hb5.mono (by simp; omega))
        have R5 : Five w5 w.heap.size 0 0 0 0 0 := (R3.below ((Below.refl w3.heap.size w3).alloc (Nat.le_refl _) _) (by omega)).below hb5 (by simp; omega)
        clear hb5 B3 R3 z3
        unfold itV
        have XX : Hid (∀ x1 x2 x3 x4 : Int, Five (w5.alloc (.cells #[.int .i64 (k : Int), .int .i64 x1, .int .i64 x2, .int .i64 x3, .int .i64 x4] 44)) w5.heap.size k x1 x2 x3 x4) := fun x1 x2 x3 x4 => by constructor <;> simp
        go_wp2_with fail
        refine (rightC k (tkRd f v) (tkR1 f v) (tkR2 f v) (takeF f v) _).mono ?_
        rintro e w6 ⟨rfl, hb6⟩
        rw [HR.out]
        have X6 := (XX.out (tkRd f v) (tkR1 f v) (tkR2 f v) (takeF f v)).below hb6 (by simp)
        have z6 : w5.heap.size + 1 ≤ w6.heap.size := by have := hb6.size; simp at this; omega
        have B6 : Below w.heap.size w w6 := (B5.alloc B5.size _).trans (hb6.mono (by simp; omega))
        have R6 : Five w6 w.heap.size 0 0 0 0 0 := (R5.below ((Below.refl w5.heap.size w5).alloc (Nat.le_refl _) _) (by omega)).below hb6 (by simp; omega)
        clear hb6 B5 R5 XX
        obtain ⟨p0, p1, p2, p3, p4, _, _, _, _, _⟩ := X6
        have X6 : Hid (Five w6 w5.heap.size k (tkRd f v) (tkR1 f v) (tkR2 f v) (takeF f v)) := ⟨p0, p1, p2, p3, p4, by assumption, by assumption, by assumption, by assumption, by assumption⟩
        go_wp2_with fail
        refine (specEncYes k (tkRd f v) (tkR1 f v) (tkR2 f v) (takeF f v) f _ _ h _ HR.out HS.out).mono ?_
        rintro e w7 ⟨rfl, hb7⟩
        have X7 := X6.out.below hb7 (by omega)
        have z7 : w.heap.size + 1 ≤ w7.heap.size := by have := hb7.size; omega
        have B7 : Below w.heap.size w w7 := B6.trans (hb7.mono (by omega))
        have R7 : Five w7 w.heap.size 0 0 0 0 0 := R6.below hb7 (by omega)
        clear hb7 B6 R6 X6 p0 p1 p2 p3 p4 z6 z5 HS HR
        clear X7
        go_wp2
        go_roundw
        case rel => exact ⟨k + 1, by omega, by omega, by go_num, B7, by omega, R7⟩
        case measure => simp [intOf]; omega
      · have a2' : f < 3 ∨ 8 < f := by omega
        have hne : ¬ encW f (v % 128) g h (tkRd f v) (tkR1 f v) (tkR2 f v) (takeF f v) = v := fun e => hnk (htest.2 ⟨rfl, fun hf => absurd hf a2, e⟩)
        clear htest hnk a2 HX0
        go_wp2_with fail
        refine (spIn f 3 8 _ false (.inr ⟨rfl, a2'⟩)).mono ?_
        rintro e w4 ⟨rfl, rfl⟩
        clear a2'
        go_wp2_with fail
        refine (tksC k f v _ _ h v0 v1 f0 f1 HS.out _).mono ?_
        rintro e w5 ⟨rfl, hb5⟩
        have z5 : w.heap.size + 1 ≤ w5.heap.size := by have := hb5.size; simp at this; omega
        have B5 : Below w.heap.size w w5 := (B3.alloc B3.size _).trans (hb5.mono (by simp; omega))
        have R5 : Five w5 w.heap.size 0 0 0 0 0 := (R3.below ((Below.refl w3.heap.size w3).alloc (Nat.le_refl _) _) (by omega)).below hb5 (by simp; omega)
        clear hb5 B3 R3 z3
        unfold itV
        have XX : Hid (∀ x1 x2 x3 x4 : Int, Five (w5.alloc (.cells #[.int .i64 (k : Int), .int .i64 x1, .int .i64 x2, .int .i64 x3, .int .i64 x4] 44)) w5.heap.size k x1 x2 x3 x4) := fun x1 x2 x3 x4 => by constructor <;> simp
        go_wp2_with fail
        refine (rightC k (tkRd f v) (tkR1 f v) (tkR2 f v) (takeF f v) _).mono ?_
        rintro e w6 ⟨rfl, hb6⟩
        rw [HR.out]
        have X6 := (XX.out (tkRd f v) (tkR1 f v) (tkR2 f v) (takeF f v)).below hb6 (by simp)
        have z6 : w5.heap.size + 1 ≤ w6.heap.size := by have := hb6.size; simp at this; omega
        have B6 : Below w.heap.size w w6 := (B5.alloc B5.size _).trans (hb6.mono (by simp; omega))
        have R6 : Five w6 w.heap.size 0 0 0 0 0 := (R5.below ((Below.refl w5.heap.size w5).alloc (Nat.le_refl _) _) (by omega)).below hb6 (by simp; omega)
        clear hb6 B5 R5 XX
        obtain ⟨p0, p1, p2, p3, p4, _, _, _, _, _⟩ := X6
        have X6 : Hid (Five w6 w5.heap.size k (tkRd f v) (tkR1 f v) (tkR2 f v) (takeF f v)) := ⟨p0, p1, p2, p3, p4, by assumption, by assumption, by assumption, by assumption, by assumption⟩
        go_wp2_with fail
        refine (specEncYes k (tkRd f v) (tkR1 f v) (tkR2 f v) (takeF f v) f _ _ h _ HR.out HS.out).mono ?_
        rintro e w7 ⟨rfl, hb7⟩
        have X7 := X6.out.below hb7 (by omega)
        have z7 : w.heap.size + 1 ≤ w7.heap.size := by have := hb7.size; omega
        have B7 : Below w.heap.size w w7 := B6.trans (hb7.mono (by omega))
        have R7 : Five w7 w.heap.size 0 0 0 0 0 := R6.below hb7 (by omega)
        clear hb7 B6 R6 X6 p0 p1 p2 p3 p4 z6 z5 HS HR
        clear X7
        go_wp2
        go_roundw
        case rel => exact ⟨k + 1, by omega, by omega, by go_num, B7, by omega, R7⟩
        case measure => simp [intOf]; omega
    · obtain rfl : k = n := by omega
      have hnk := hyes.out
      clear HX0 hyes
      obtain ⟨⟨f, c, g, h⟩, hs⟩ : ∃ s, s = shT (k : Int) := ⟨_, rfl⟩
      have htest := hit_all k v f c g h (by omega) (by omega) v0 v1 hs.symm
      obtain ⟨⟨f0, f1, _⟩, _⟩ := dec_test k v (by omega) (by omega) v0 v1 f c g h hs.symm
      have HS : Hid (shT (k : Int) = (f, c, g, h)) := hs.symm
      have HR : Hid (rightB k (tkRd f v) (tkR1 f v) (tkR2 f v) (takeF f v) = true) := by
        show _ = _
        unfold rightB
        rw [HS.out, right_taken f v f0 f1, Bool.and_true]
        exact decide_eq_true ⟨by omega, by omega⟩
      clear hs
      go_wp2_with fail
      refine (specShCs k f c g h _ HS.out).mono ?_
      rintro e w3 ⟨rfl, hb3⟩
      have z3 : w.heap.size + 1 ≤ w3.heap.size := Nat.le_trans hsz hb3.size
      have B3 : Below w.heap.size w w3 := hbel.trans (hb3.mono (by omega))
      have R3 := hR.below hb3 (by omega)
      clear hb3 hbel hR hsz
      obtain ⟨a1, a3, hen⟩ := htest.1 hnk
      obtain rfl : f = F := by have := hF.out; rw [HS.out] at this; exact this
      subst a1
      have HEN : Hid (encW f (v % 128) g h (tkRd f v) (tkR1 f v) (tkR2 f v) (takeF f v) = v) := hen
      clear htest hnk hen hF
      by_cases a2 : 3 ≤ f ∧ f ≤ 8
      · have a4 := a3 a2
        clear a3
        subst a4
        go_wp2_with fail
        refine (spIn f 3 8 _ true (.inl ⟨rfl, a2.1, a2.2⟩)).mono ?_
        rintro e w4 ⟨rfl, rfl⟩
        clear a2
        go_wp2_with fail
        refine (tksC k f v _ _ h v0 v1 f0 f1 HS.out _).mono ?_
        rintro e w5 ⟨rfl, hb5⟩
        have z5 : w.heap.size + 1 ≤ w5.heap.size := by have := hb5.size; simp at this; omega
        have B5 : Below w.heap.size w w5 := (B3.alloc B3.size _).trans (hb5.mono (by simp; omega))
        have R5 : Five w5 w.heap.size 0 0 0 0 0 := (R3.below ((Below.refl w3.heap.size w3).alloc (Nat.le_refl _) _) (by omega)).below hb5 (by simp; omega)
        clear hb5 B3 R3 z3
        unfold itV
        have XX : Hid (∀ x1 x2 x3 x4 : Int, Five (w5.alloc (.cells #[.int .i64 (k : Int), .int .i64 x1, .int .i64 x2, .int .i64 x3, .int .i64 x4] 44)) w5.heap.size k x1 x2 x3 x4) := fun x1 x2 x3 x4 => by constructor <;> simp
        go_wp2_with fail
        refine (rightC k (tkRd f v) (tkR1 f v) (tkR2 f v) (takeF f v) _).mono ?_
        rintro e w6 ⟨rfl, hb6⟩
        rw [HR.out]
        have X6 := (XX.out (tkRd f v) (tkR1 f v) (tkR2 f v) (takeF f v)).below hb6 (by simp)
        have z6 : w5.heap.size + 1 ≤ w6.heap.size := by have := hb6.size; simp at this; omega
        have B6 : Below w.heap.size w w6 := (B5.alloc B5.size _).trans (hb6.mono (by simp; omega))
        have R6 : Five w6 w.heap.size 0 0 0 0 0 := (R5.below ((Below.refl w5.heap.size w5).alloc (Nat.le_refl _) _) (by omega)).below hb6 (by simp; omega)
        clear hb6 B5 R5 XX
        obtain ⟨p0, p1, p2, p3, p4, _, _, _, _, _⟩ := X6
        have X6 : Hid (Five w6 w5.heap.size k (tkRd f v) (tkR1 f v) (tkR2 f v) (takeF f v)) := ⟨p0, p1, p2, p3, p4, by assumption, by assumption, by assumption, by assumption, by assumption⟩
        go_wp2_with fail
        refine (specEncYes k (tkRd f v) (tkR1 f v) (tkR2 f v) (takeF f v) f _ _ h _ HR.out HS.out).mono ?_
        rintro e w7 ⟨rfl, hb7⟩
        have X7 := X6.out.below hb7 (by omega)
        have z7 : w.heap.size + 1 ≤ w7.heap.size := by have := hb7.size; omega
        have B7 : Below w.heap.size w w7 := B6.trans (hb7.mono (by omega))
        have R7 : Five w7 w.heap.size 0 0 0 0 0 := R6.below hb7 (by omega)
        clear hb7 B6 R6 X6 p0 p1 p2 p3 p4 z6 z5 HS HR
        rw [HEN.out]
        clear HEN
        obtain ⟨c0, c1, c2, c3, c4, _, _, _, _, _⟩ := X7
        obtain ⟨d0, d1, d2, d3, d4, g0, g1, g2, g3, g4⟩ := R7
        go_wp2
        refine bodyPost_ret (v := .tuple #[.agg #[.int .i64 (k : Int), .int .i64 (tkRd f v), .int .i64 (tkR1 f v), .int .i64 (tkR2 f v), .int .i64 (takeF f v)], .bool true]) (by simp [results, Tryd.results74, go_sem, d0, d1, d2, d3, d4]) rfl ⟨rfl, ?_⟩
        repeat (first | with_reducible exact B7 | refine Below.setCell ?_ (by first | omega | (simp; done) | (simp; omega)) _)
      · have a2' : f < 3 ∨ 8 < f := by omega
        clear a3 a2
        go_wp2_with fail
        refine (spIn f 3 8 _ false (.inr ⟨rfl, a2'⟩)).mono ?_
        rintro e w4 ⟨rfl, rfl⟩
        clear a2'
        go_wp2_with fail
        refine (tksC k f v _ _ h v0 v1 f0 f1 HS.out _).mono ?_
        rintro e w5 ⟨rfl, hb5⟩
        have z5 : w.heap.size + 1 ≤ w5.heap.size := by have := hb5.size; simp at this; omega
        have B5 : Below w.heap.size w w5 := (B3.alloc B3.size _).trans (hb5.mono (by simp; omega))
        have R5 : Five w5 w.heap.size 0 0 0 0 0 := (R3.below ((Below.refl w3.heap.size w3).alloc (Nat.le_refl _) _) (by omega)).below hb5 (by simp; omega)
        clear hb5 B3 R3 z3
        unfold itV
        have XX : Hid (∀ x1 x2 x3 x4 : Int, Five (w5.alloc (.cells #[.int .i64 (k : Int), .int .i64 x1, .int .i64 x2, .int .i64 x3, .int .i64 x4] 44)) w5.heap.size k x1 x2 x3 x4) := fun x1 x2 x3 x4 => by constructor <;> simp
        go_wp2_with fail
        refine (rightC k (tkRd f v) (tkR1 f v) (tkR2 f v) (takeF f v) _).mono ?_
        rintro e w6 ⟨rfl, hb6⟩
        rw [HR.out]
        have X6 := (XX.out (tkRd f v) (tkR1 f v) (tkR2 f v) (takeF f v)).below hb6 (by simp)
        have z6 : w5.heap.size + 1 ≤ w6.heap.size := by have := hb6.size; simp at this; omega
        have B6 : Below w.heap.size w w6 := (B5.alloc B5.size _).trans (hb6.mono (by simp; omega))
        have R6 : Five w6 w.heap.size 0 0 0 0 0 := (R5.below ((Below.refl w5.heap.size w5).alloc (Nat.le_refl _) _) (by omega)).below hb6 (by simp; omega)
        clear hb6 B5 R5 XX
        obtain ⟨p0, p1, p2, p3, p4, _, _, _, _, _⟩ := X6
        have X6 : Hid (Five w6 w5.heap.size k (tkRd f v) (tkR1 f v) (tkR2 f v) (takeF f v)) := ⟨p0, p1, p2, p3, p4, by assumption, by assumption, by assumption, by assumption, by assumption⟩
        go_wp2_with fail
        refine (specEncYes k (tkRd f v) (tkR1 f v) (tkR2 f v) (takeF f v) f _ _ h _ HR.out HS.out).mono ?_
        rintro e w7 ⟨rfl, hb7⟩
        have X7 := X6.out.below hb7 (by omega)
        have z7 : w.heap.size + 1 ≤ w7.heap.size := by have := hb7.size; omega
        have B7 : Below w.heap.size w w7 := B6.trans (hb7.mono (by omega))
        have R7 : Five w7 w.heap.size 0 0 0 0 0 := R6.below hb7 (by omega)
        clear hb7 B6 R6 X6 p0 p1 p2 p3 p4 z6 z5 HS HR
        rw [HEN.out]
        clear HEN
        obtain ⟨c0, c1, c2, c3, c4, _, _, _, _, _⟩ := X7
        obtain ⟨d0, d1, d2, d3, d4, g0, g1, g2, g3, g4⟩ := R7
        go_wp2
        refine bodyPost_ret (v := .tuple #[.agg #[.int .i64 (k : Int), .int .i64 (tkRd f v), .int .i64 (tkR1 f v), .int .i64 (tkR2 f v), .int .i64 (takeF f v)], .bool true]) (by simp [results, Tryd.results74, go_sem, d0, d1, d2, d3, d4]) rfl ⟨rfl, ?_⟩
        repeat (first | with_reducible exact B7 | refine Below.setCell ?_ (by first | omega | (simp; done) | (simp; omega)) _)
end Go.Proofs.YtjpdjalhhokghaaDoor
