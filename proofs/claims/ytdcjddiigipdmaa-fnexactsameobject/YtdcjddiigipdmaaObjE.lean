/- Two objects that are right and have the same text are alike (plain). -/
import Derived.Test.YtdcjddiigipdmaaObjT
namespace Go.Proofs.Ytdcjddiigipdmaa
open Go Go.RowKit
set_option linter.unusedVariables false

theorem app_inj {x y r s : List UInt8} (h : x ++ r = y ++ s) (hl : x.length = y.length) : x = y ∧ r = s := List.append_inj h hl
theorem leN_inj {a b : Int} {n : Nat} {r s : List UInt8} (h : leN a n ++ r = leN b n ++ s) : leN a n = leN b n ∧ r = s := app_inj h (by rw [leN_len, leN_len])
/-- A number's bytes tell it, modulo 256. -/
theorem leN_one {a b : Int} (h : leN a 1 = leN b 1) (ha : 0 ≤ a ∧ a ≤ 255) (hb : 0 ≤ b ∧ b ≤ 255) : a = b := by
  have h1 : leAt (u64 a) 0 = leAt (u64 b) 0 := by
    have : [leAt (u64 a) 0] = [leAt (u64 b) 0] := h
    simpa using this
  have h2 := congrArg (fun x : UInt8 => (x.toNat : Int)) h1
  simp only [leAt_nat] at h2
  have e1 : (u64 a : Int) = a := by unfold u64; omega
  have e2 : (u64 b : Int) = b := by unfold u64; omega
  rw [e1, e2] at h2
  simp at h2
  omega
/-- Four bytes tell a number of 32 bits with a sign. -/
theorem leN_four {a b : Int} (h : leN a 4 = leN b 4) (ha : -2147483648 ≤ a ∧ a ≤ 2147483647) (hb : -2147483648 ≤ b ∧ b ≤ 2147483647) : a = b := by
  have h0 : [leAt (u64 a) 0, leAt (u64 a) 1, leAt (u64 a) 2, leAt (u64 a) 3] = [leAt (u64 b) 0, leAt (u64 b) 1, leAt (u64 b) 2, leAt (u64 b) 3] := h
  simp only [List.cons.injEq, and_true] at h0
  obtain ⟨h1, h2, h3, h4⟩ := h0
  have g1 := congrArg (fun x : UInt8 => (x.toNat : Int)) h1
  have g2 := congrArg (fun x : UInt8 => (x.toNat : Int)) h2
  have g3 := congrArg (fun x : UInt8 => (x.toNat : Int)) h3
  have g4 := congrArg (fun x : UInt8 => (x.toNat : Int)) h4
  simp only [leAt_nat] at g1 g2 g3 g4
  have e1 : (u64 a : Int) = a % 18446744073709551616 := by unfold u64; omega
  have e2 : (u64 b : Int) = b % 18446744073709551616 := by unfold u64; omega
  rw [e1, e2] at g1 g2 g3 g4
  simp at g1 g2 g3 g4
  omega
theorem bit_rng (b : Bool) : 0 ≤ bitI b ∧ bitI b ≤ 255 := by cases b <;> decide
theorem bit_inj {a b : Bool} (h : bitI a = bitI b) : a = b := by cases a <;> cases b <;> first | rfl | (exact absurd h (by decide))
theorem txt_inj {a b : ByteArray} {r s : List UInt8} (h : a.data.toList ++ r = b.data.toList ++ s) (hl : a.size = b.size) : a = b ∧ r = s := by
  obtain ⟨h1, h2⟩ := app_inj h (by rw [len_toList, len_toList, hl])
  exact ⟨bytes_eq h1, h2⟩
/-- A text behind its length. -/
theorem nam_inj {a b : ByteArray} {r s : List UInt8} (h : leN a.size 1 ++ (a.data.toList ++ r) = leN b.size 1 ++ (b.data.toList ++ s)) (ha : a.size ≤ 255) (hb : b.size ≤ 255) : a = b ∧ r = s := by
  obtain ⟨h1, h2⟩ := leN_inj h
  have := leN_one h1 ⟨by omega, by omega⟩ ⟨by omega, by omega⟩
  exact txt_inj h2 (by omega)
theorem num_inj {a b : Int} {r s : List UInt8} (h : leN a 1 ++ r = leN b 1 ++ s) (ha : 0 ≤ a ∧ a ≤ 255) (hb : 0 ≤ b ∧ b ≤ 255) : a = b ∧ r = s := by
  obtain ⟨h1, h2⟩ := leN_inj h
  exact ⟨leN_one h1 ha hb, h2⟩
/-- Lists of texts, each of which tells its end. -/
theorem cat_inj {f g : Nat → List UInt8} {Q : Nat → Prop} {n : Nat} (hd : ∀ i, i < n → ∀ r s, f i ++ r = g i ++ s → Q i ∧ r = s) : ∀ m, m ≤ n → ∀ r s, catL f m ++ r = catL g m ++ s → (∀ i, i < m → Q i) ∧ r = s
  | 0, _, r, s, h => ⟨fun i hi => absurd hi (Nat.not_lt_zero _), h⟩
  | m + 1, hm, r, s, h => by
    have h1 : catL f m ++ (f m ++ r) = catL g m ++ (g m ++ s) := by
      have : (catL f m ++ f m) ++ r = (catL g m ++ g m) ++ s := h
      simpa only [List.append_assoc] using this
    obtain ⟨h2, h3⟩ := cat_inj hd m (by omega) _ _ h1
    obtain ⟨h4, h5⟩ := hd m (by omega) _ _ h3
    refine ⟨fun i hi => ?_, h5⟩
    rcases Nat.lt_succ_iff_lt_or_eq.1 hi with h' | rfl
    · exact h2 i h'
    · exact h4
theorem frB_255 {f : Int} (h : frB f = true) : 0 ≤ f ∧ f ≤ 255 := by have := frB_bd h; omega
theorem fn_inj {a b : FunD} {r s : List UInt8} (ha : nameB a.nm = true ∧ frB a.fr = true ∧ codeB a.cd.size = true) (hb : nameB b.nm = true ∧ frB b.fr = true ∧ codeB b.cd.size = true) (h : fnL a ++ r = fnL b ++ s) : a = b ∧ r = s := by
  obtain ⟨a1, a2, a3⟩ := ha
  obtain ⟨b1, b2, b3⟩ := hb
  have c1 := nameB_20 a1
  have c2 := nameB_20 b1
  rw [codeB_iff] at a3 b3
  unfold fnL at h
  simp only [List.append_assoc] at h
  obtain ⟨e1, h⟩ := nam_inj h (by omega) (by omega)
  obtain ⟨e2, h⟩ := num_inj h (bit_rng _) (bit_rng _)
  obtain ⟨e3, h⟩ := num_inj h (frB_255 a2) (frB_255 b2)
  obtain ⟨e4, h⟩ := num_inj h ⟨by omega, by omega⟩ ⟨by omega, by omega⟩
  obtain ⟨e5, h⟩ := txt_inj h (by omega)
  refine ⟨?_, h⟩
  cases a
  cases b
  simp only at e1 e2 e3 e5
  have e2 := bit_inj e2
  simp only [FunD.mk.injEq]
  exact ⟨e1, e2, e3, e5⟩
theorem dt_inj {a b : DatD} {r s : List UInt8} (ha : nameB a.nm = true ∧ datumB a.bs.size = true) (hb : nameB b.nm = true ∧ datumB b.bs.size = true) (h : dtL a ++ r = dtL b ++ s) : a = b ∧ r = s := by
  obtain ⟨a1, a2⟩ := ha
  obtain ⟨b1, b2⟩ := hb
  have c1 := nameB_20 a1
  have c2 := nameB_20 b1
  rw [datumB_iff] at a2 b2
  unfold dtL at h
  simp only [List.append_assoc] at h
  obtain ⟨e1, h⟩ := nam_inj h (by omega) (by omega)
  obtain ⟨e2, h⟩ := nam_inj h (by omega) (by omega)
  refine ⟨?_, h⟩
  cases a
  cases b
  simp only at e1 e2
  simp only [DatD.mk.injEq]
  exact ⟨e1, e2⟩
/-- What a relocation that is right is known to be. -/
def relOK (a : RelD) : Prop := (0 ≤ a.un ∧ a.un ≤ 255) ∧ (0 ≤ a.pl ∧ a.pl ≤ 255) ∧ (0 ≤ a.kd ∧ a.kd ≤ 255) ∧ a.sy.size ≤ 255 ∧ (-2147483648 ≤ a.ad ∧ a.ad ≤ 2147483647)
theorem rl_inj {a b : RelD} {r s : List UInt8} (ha : relOK a) (hb : relOK b) (h : rlL a ++ r = rlL b ++ s) : a = b ∧ r = s := by
  obtain ⟨a1, a2, a3, a4, a5⟩ := ha
  obtain ⟨b1, b2, b3, b4, b5⟩ := hb
  unfold rlL at h
  simp only [List.append_assoc] at h
  obtain ⟨e1, h⟩ := num_inj h a1 b1
  obtain ⟨e2, h⟩ := num_inj h a2 b2
  obtain ⟨e3, h⟩ := num_inj h a3 b3
  obtain ⟨e4, h⟩ := nam_inj h a4 b4
  obtain ⟨e5, h⟩ := leN_inj h
  have e5 := leN_four e5 a5 b5
  refine ⟨?_, h⟩
  cases a
  cases b
  simp only at e1 e2 e3 e4 e5
  simp only [RelD.mk.injEq]
  exact ⟨e1, e2, e3, e4, e5⟩
theorem sh_inj {a b : ShaD} {r s : List UInt8} (ha : 0 ≤ a.id ∧ a.id ≤ 255) (hb : 0 ≤ b.id ∧ b.id ≤ 255) (h : shL a ++ r = shL b ++ s) : a = b ∧ r = s := by
  unfold shL at h
  simp only [List.append_assoc] at h
  obtain ⟨e1, h⟩ := num_inj h ha hb
  obtain ⟨e2, h⟩ := num_inj h (bit_rng _) (bit_rng _)
  refine ⟨?_, h⟩
  cases a
  cases b
  simp only at e1 e2
  have e2 := bit_inj e2
  simp only [ShaD.mk.injEq]
  exact ⟨e1, e2⟩
theorem fltR_ok {o : ObjD} (h : (lintO o).2 = 0) {i : Nat} (hi : i < o.nr) : relOK (o.R i) := by
  obtain ⟨h1, h2, h3, h4, _⟩ := lintO_ok h
  obtain ⟨_, _, _, hnf, hnd, _, _⟩ := wholeO_ok h1
  have hf := h4 i hi
  have hsy := nameB_20 (fltR_sy hf)
  unfold fltR at hf
  split at hf
  · omega
  rename_i g1
  split at hf
  · omega
  rename_i g2
  split at hf
  · omega
  split at hf
  · omega
  rename_i g4
  have hu : ¬ ((o.R i).un < 0 ∨ (o.nf + o.nd : Nat) ≤ (o.R i).un) := fun hc => by
    have : unitN o (o.R i).un = 0 := by unfold unitN; rw [if_pos hc]
    omega
  have hun : unitN o (o.R i).un ≤ 64 := by
    unfold unitN
    rw [if_neg hu]
    split
    · have := codeB_iff.1 (fltF_ok (h2 (o.R i).un.toNat (by omega))).2.2.2
      omega
    · have := datumB_iff.1 (fltD_ok (h3 ((o.R i).un.toNat - o.nf) (by omega))).2.2
      omega
  have hk : 1 ≤ (o.R i).kd ∧ (o.R i).kd ≤ 9 := by
    unfold mayB at g2
    split at g2
    · simp at g2; omega
    · simp at g2; omega
  exact ⟨⟨by omega, by omega⟩, ⟨by omega, by omega⟩, ⟨by omega, by omega⟩, by omega, ⟨by omega, by omega⟩⟩
theorem fltS_ok {o : ObjD} {i : Nat} (h : fltS o i = 0) : 0 ≤ (o.S i).id ∧ (o.S i).id ≤ 255 := by
  unfold fltS at h
  split at h
  · omega
  omega
/-- Alike. -/
structure Alike (a b : ObjD) : Prop where
  nm : a.nm = b.nm
  dp : a.dp = b.dp
  nf : a.nf = b.nf
  nd : a.nd = b.nd
  nr : a.nr = b.nr
  ns : a.ns = b.ns
  f : ∀ i, i < a.nf → a.F i = b.F i
  d : ∀ i, i < a.nd → a.D i = b.D i
  r : ∀ i, i < a.nr → a.R i = b.R i
  s : ∀ i, i < a.ns → a.S i = b.S i
theorem catL_congr {f g : Nat → List UInt8} : ∀ {n : Nat}, (∀ i, i < n → f i = g i) → catL f n = catL g n
  | 0, _ => rfl
  | n + 1, h => by
    show catL f n ++ f n = catL g n ++ g n
    rw [catL_congr (fun i hi => h i (by omega)), h n (by omega)]
theorem Alike.text {a b : ObjD} (h : Alike a b) : objL a = objL b := by
  obtain ⟨h1, h2, h3, h4, h5, h6, h7, h8, h9, h10⟩ := h
  unfold objL preS preR preD hdL cF cD cR cS
  rw [catL_congr (f := fun i => fnL (a.F i)) (g := fun i => fnL (b.F i)) (fun i hi => by show fnL (a.F i) = _; rw [h7 i hi]), catL_congr (f := fun i => dtL (a.D i)) (g := fun i => dtL (b.D i)) (fun i hi => by show dtL (a.D i) = _; rw [h8 i hi]), catL_congr (f := fun i => rlL (a.R i)) (g := fun i => rlL (b.R i)) (fun i hi => by show rlL (a.R i) = _; rw [h9 i hi]), catL_congr (f := fun i => shL (a.S i)) (g := fun i => shL (b.S i)) (fun i hi => by show shL (a.S i) = _; rw [h10 i hi]), h1, h2, h3, h4, h5, h6]
theorem text_alike {a b : ObjD} (ha : (lintO a).2 = 0) (hb : (lintO b).2 = 0) (h : objL a = objL b) : Alike a b := by
  obtain ⟨a1, a2, a3, a4, a5⟩ := lintO_ok ha
  obtain ⟨b1, b2, b3, b4, b5⟩ := lintO_ok hb
  obtain ⟨an, ad, _, anf, and', anr, ans⟩ := wholeO_ok a1
  obtain ⟨bn, bd, _, bnf, bnd, bnr, bns⟩ := wholeO_ok b1
  have c1 := nameB_20 an
  have c2 := nameB_20 bn
  have h0 : objL a ++ [] = objL b ++ [] := by rw [h]
  unfold objL preS preR preD hdL at h0
  simp only [List.append_assoc] at h0
  obtain ⟨_, h0⟩ := app_inj h0 rfl
  obtain ⟨e1, h0⟩ := nam_inj h0 (by omega) (by omega)
  obtain ⟨e2, h0⟩ := num_inj h0 ⟨by omega, by omega⟩ ⟨by omega, by omega⟩
  obtain ⟨e3, h0⟩ := num_inj h0 ⟨by omega, by omega⟩ ⟨by omega, by omega⟩
  have e3 : a.nf = b.nf := by omega
  have f1 := cat_inj (f := fun i => fnL (a.F i)) (g := fun i => fnL (b.F i)) (Q := fun i => a.F i = b.F i) (n := a.nf) (fun i hi r s hh => fn_inj ⟨(fltF_ok (a2 i hi)).1, (fltF_ok (a2 i hi)).2.2.1, (fltF_ok (a2 i hi)).2.2.2⟩ ⟨(fltF_ok (b2 i (by omega))).1, (fltF_ok (b2 i (by omega))).2.2.1, (fltF_ok (b2 i (by omega))).2.2.2⟩ hh) a.nf (Nat.le_refl _)
  unfold cF at h0
  rw [← e3] at h0
  obtain ⟨f1, h0⟩ := f1 _ _ h0
  obtain ⟨e4, h0⟩ := num_inj h0 ⟨by omega, by omega⟩ ⟨by omega, by omega⟩
  have e4 : a.nd = b.nd := by omega
  have f2 := cat_inj (f := fun i => dtL (a.D i)) (g := fun i => dtL (b.D i)) (Q := fun i => a.D i = b.D i) (n := a.nd) (fun i hi r s hh => dt_inj ⟨(fltD_ok (a3 i hi)).1, (fltD_ok (a3 i hi)).2.2⟩ ⟨(fltD_ok (b3 i (by omega))).1, (fltD_ok (b3 i (by omega))).2.2⟩ hh) a.nd (Nat.le_refl _)
  unfold cD at h0
  rw [← e4] at h0
  obtain ⟨f2, h0⟩ := f2 _ _ h0
  obtain ⟨e5, h0⟩ := num_inj h0 ⟨by omega, by omega⟩ ⟨by omega, by omega⟩
  have e5 : a.nr = b.nr := by omega
  have f3 := cat_inj (f := fun i => rlL (a.R i)) (g := fun i => rlL (b.R i)) (Q := fun i => a.R i = b.R i) (n := a.nr) (fun i hi r s hh => rl_inj (fltR_ok ha hi) (fltR_ok hb (by omega)) hh) a.nr (Nat.le_refl _)
  unfold cR at h0
  rw [← e5] at h0
  obtain ⟨f3, h0⟩ := f3 _ _ h0
  obtain ⟨e6, h0⟩ := num_inj h0 ⟨by omega, by omega⟩ ⟨by omega, by omega⟩
  have e6 : a.ns = b.ns := by omega
  have f4 := cat_inj (f := fun i => shL (a.S i)) (g := fun i => shL (b.S i)) (Q := fun i => a.S i = b.S i) (n := a.ns) (fun i hi r s hh => sh_inj (fltS_ok (a5 i hi)) (fltS_ok (b5 i (by omega))) hh) a.ns (Nat.le_refl _)
  unfold cS at h0
  rw [← e6] at h0
  obtain ⟨f4, h0⟩ := f4 _ _ h0
  exact ⟨e1, e2, e3, e4, e5, e6, f1, f2, f3, f4⟩
/-- The sum behind it tells nothing more. -/
theorem seal_inj {l k : List UInt8} (h : sealL l = sealL k) : l = k := by
  unfold sealL at h
  have hl : l.length = k.length := by
    have := congrArg List.length h
    simp only [List.length_append, leL_len] at this
    omega
  exact (app_inj h hl).1
end Go.Proofs.Ytdcjddiigipdmaa
