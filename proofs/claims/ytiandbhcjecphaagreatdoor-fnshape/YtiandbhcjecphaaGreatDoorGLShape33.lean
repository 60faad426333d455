/- Lists of instructions; what a body of a function may be, plain. What a function's instructions may be, plain: epilogues, parts, jumps, rules. The program's check of functions: a function under check in memory; its small questions. The program's check of one instruction. -/
import Derived.Test.YtiandbhcjecphaaGreatDoorGLShape9
import Derived.Test.YtiandbhcjecphaaGreatDoorGLShape32
import Derived.Test.YtiandbhcjecphaaGreatDoorGLShape4
namespace Go.Proofs.YtiandbhcjecphaaGreatDoor.Fu
open Go Go.RowKit
set_option linter.unusedVariables false

/-- An instruction: Op, Rd, Rs1, Rs2, Imm. -/
structure I5 where
  o : Int
  d : Int
  a : Int
  b : Int
  i : Int
def I5.z (x : I5) : List Int := [x.o, x.d, x.a, x.b, x.i]
def zs5 (L : List I5) : List Int := L.flatMap I5.z
/-- The numbers of a list of instructions, one behind the other. -/
def rz (L : List I5) (i : Nat) : Int := (zs5 L).getD i 0
theorem zs5_cons (x : I5) (L : List I5) : zs5 (x :: L) = x.o :: x.d :: x.a :: x.b :: x.i :: zs5 L := by simp [zs5, I5.z]
theorem zs5_append (L M : List I5) : zs5 (L ++ M) = zs5 L ++ zs5 M := by simp [zs5]
theorem zs5_len (L : List I5) : (zs5 L).length = L.length * 5 := by
  induction L with
  | nil => rfl
  | cons x L ih => rw [zs5_cons]; simp [ih]; omega
theorem rz_cons (x : I5) (L : List I5) (m : Nat) : rz (x :: L) (m + 5) = rz L m := by
  unfold rz
  rw [zs5_cons]
  rfl
theorem rz_at {L : List I5} {k : Nat} {x : I5} (h : L[k]? = some x) : rz L (k * 5) = x.o ∧ rz L (k * 5 + 1) = x.d ∧ rz L (k * 5 + 2) = x.a ∧ rz L (k * 5 + 3) = x.b ∧ rz L (k * 5 + 4) = x.i := by
  induction L generalizing k with
  | nil => simp at h
  | cons y L ih =>
    cases k with
    | zero =>
      obtain rfl : y = x := by simpa using h
      unfold rz
      rw [zs5_cons]
      exact ⟨rfl, rfl, rfl, rfl, rfl⟩
    | succ k =>
      obtain ⟨h0, h1, h2, h3, h4⟩ := ih (k := k) (by simpa using h)
      exact ⟨(by rw [show (k + 1) * 5 = k * 5 + 5 from by omega, rz_cons]; exact h0), (by rw [show (k + 1) * 5 + 1 = k * 5 + 1 + 5 from by omega, rz_cons]; exact h1),
        (by rw [show (k + 1) * 5 + 2 = k * 5 + 2 + 5 from by omega, rz_cons]; exact h2), (by rw [show (k + 1) * 5 + 3 = k * 5 + 3 + 5 from by omega, rz_cons]; exact h3), (by rw [show (k + 1) * 5 + 4 = k * 5 + 4 + 5 from by omega, rz_cons]; exact h4)⟩

def proL (f : Int) : List I5 := [⟨22, 2, 2, 0, -f⟩, ⟨21, 0, 2, 1, f - 8⟩]
def epiL (f : Int) : List I5 := [⟨14, 1, 2, 0, f - 8⟩, ⟨22, 2, 2, 0, f⟩, ⟨4, 0, 1, 0, 0⟩]

/-- What an instruction of a body may be: it stands at k, the epilogue begins at E. -/
structure Loc (f at' : Int) (cs : List Int) (E k : Int) (x : I5) : Prop where
  right : rightB x.o x.d x.a x.b x.i = true
  jr : x.o ≠ 4
  jal : x.o = 3 → x.d = 1 ∧ at' + 4 * k + x.i ∈ cs
  br : 5 ≤ x.o → x.o ≤ 10 → x.i % 4 = 0 ∧ 2 ≤ k + x.i / 4 ∧ k + x.i / 4 ≤ E
  rd : x.o ≠ 3 → ¬ (5 ≤ x.o ∧ x.o ≤ 10) → x.d ≠ 1 ∧ x.d ≠ 2
  mem : 11 ≤ x.o → x.o ≤ 21 → x.a = 2 → 0 ≤ x.i ∧ x.i ≤ f - 8 - wdN x.o ∧ x.i % wdN x.o = 0
theorem Loc.far {f at' : Int} {cs : List Int} {E E' k : Int} {x : I5} (h : Loc f at' cs E k x) (hE : E ≤ E') : Loc f at' cs E' k x :=
  ⟨h.right, h.jr, h.jal, fun a b => by obtain ⟨p, q, r⟩ := h.br a b; exact ⟨p, q, by omega⟩, h.rd, h.mem⟩
/-- A body whose first instruction is of number n. -/
def Body (f at' : Int) (cs : List Int) (n : Nat) (B : List I5) : Prop := ∀ (k : Nat) x, B[k]? = some x → Loc f at' cs ((n : Int) + B.length) ((n : Int) + k) x
theorem Body.append {f at' : Int} {cs : List Int} {n : Nat} {B C : List I5} (h : Body f at' cs n B) (h' : Body f at' cs (n + B.length) C) : Body f at' cs n (B ++ C) := by
  intro k x hx
  rw [List.length_append]
  by_cases hk : k < B.length
  · rw [List.getElem?_append_left hk] at hx
    exact (h k x hx).far (by omega)
  · rw [List.getElem?_append_right (by omega)] at hx
    have := h' (k - B.length) x hx
    have e : (((n + B.length : Nat) : Int) + ((k - B.length : Nat) : Int)) = (n : Int) + (k : Int) := by omega
    rw [e] at this
    exact this.far (by omega)
theorem Body.nil {f at' : Int} {cs : List Int} {n : Nat} : Body f at' cs n [] := fun k x hx => by simp at hx

/-- A function that holds to the rules. -/
def Fun (f : Int) (B : List I5) : List I5 := proL f ++ B ++ epiL f
theorem Fun_len (f : Int) (B : List I5) : (Fun f B).length = B.length + 5 := by simp [Fun, proL, epiL]
theorem right_22 (rd r1 im : Int) (h0 : 0 ≤ rd ∧ rd ≤ 31) (h1 : 0 ≤ r1 ∧ r1 ≤ 31) (h2 : -2048 ≤ im ∧ im ≤ 2047) : rightB 22 rd r1 0 im = true := by
  have hk : okB 3 im = true := (okB_iff 3 im (by omega) (by omega)).2 h2
  have b0 : regB rd = true := decide_eq_true h0
  have b1 : regB r1 = true := decide_eq_true h1
  simp [rightB, shT, rightF, b0, b1, hk]
theorem right_ld (op rd r1 im : Int) (ho : 11 ≤ op ∧ op ≤ 17) (h0 : 0 ≤ rd ∧ rd ≤ 31) (h1 : 0 ≤ r1 ∧ r1 ≤ 31) (h2 : -2048 ≤ im ∧ im ≤ 2047) : rightB op rd r1 0 im = true := by
  have hk : okB 3 im = true := (okB_iff 3 im (by omega) (by omega)).2 h2
  have b0 : regB rd = true := decide_eq_true h0
  have b1 : regB r1 = true := decide_eq_true h1
  rcases (show op = 11 ∨ op = 12 ∨ op = 13 ∨ op = 14 ∨ op = 15 ∨ op = 16 ∨ op = 17 by omega) with rfl | rfl | rfl | rfl | rfl | rfl | rfl <;> simp [rightB, shT, rightF, b0, b1, hk]
theorem right_st (op r1 r2 im : Int) (ho : 18 ≤ op ∧ op ≤ 21) (h0 : 0 ≤ r1 ∧ r1 ≤ 31) (h1 : 0 ≤ r2 ∧ r2 ≤ 31) (h2 : -2048 ≤ im ∧ im ≤ 2047) : rightB op 0 r1 r2 im = true := by
  have hk : okB 5 im = true := (okB_iff 5 im (by omega) (by omega)).2 h2
  have b0 : regB r1 = true := decide_eq_true h0
  have b1 : regB r2 = true := decide_eq_true h1
  rcases (show op = 18 ∨ op = 19 ∨ op = 20 ∨ op = 21 by omega) with rfl | rfl | rfl | rfl <;> simp [rightB, shT, rightF, b0, b1, hk]
theorem right_br (op r1 r2 im : Int) (ho : 5 ≤ op ∧ op ≤ 10) (h0 : 0 ≤ r1 ∧ r1 ≤ 31) (h1 : 0 ≤ r2 ∧ r2 ≤ 31) (h2 : -4096 ≤ im ∧ im ≤ 4094 ∧ im % 2 = 0) : rightB op 0 r1 r2 im = true := by
  have hk : okB 4 im = true := (okB_iff 4 im (by omega) (by omega)).2 h2
  have b0 : regB r1 = true := decide_eq_true h0
  have b1 : regB r2 = true := decide_eq_true h1
  rcases (show op = 5 ∨ op = 6 ∨ op = 7 ∨ op = 8 ∨ op = 9 ∨ op = 10 by omega) with rfl | rfl | rfl | rfl | rfl | rfl <;> simp [rightB, shT, rightF, b0, b1, hk]
theorem right_rr (op rd r1 r2 : Int) (ho : (31 ≤ op ∧ op ≤ 40) ∨ (45 ≤ op ∧ op ≤ 62)) (h : (shT op).1 = 8) (h0 : 0 ≤ rd ∧ rd ≤ 31) (h1 : 0 ≤ r1 ∧ r1 ≤ 31) (h2 : 0 ≤ r2 ∧ r2 ≤ 31) : rightB op rd r1 r2 0 = true := by
  have b0 : regB rd = true := decide_eq_true h0
  have b1 : regB r1 = true := decide_eq_true h1
  have b2 : regB r2 = true := decide_eq_true h2
  unfold rightB
  rw [h]
  simp [rightF, b0, b1, b2]
  omega
theorem right_lui (rd im : Int) (h0 : 0 ≤ rd ∧ rd ≤ 31) (h2 : -2147483648 ≤ im ∧ im ≤ 2147479552 ∧ im % 4096 = 0) : rightB 1 rd 0 0 im = true := by
  have hk : okB 1 im = true := (okB_iff 1 im (by omega) (by omega)).2 h2
  have b0 : regB rd = true := decide_eq_true h0
  simp [rightB, shT, rightF, b0, hk]
theorem right_jal (rd im : Int) (h0 : 0 ≤ rd ∧ rd ≤ 31) (h2 : -1048576 ≤ im ∧ im ≤ 1048574 ∧ im % 2 = 0) : rightB 3 rd 0 0 im = true := by
  have hk : okB 2 im = true := (okB_iff 2 im (by omega) (by omega)).2 h2
  have b0 : regB rd = true := decide_eq_true h0
  simp [rightB, shT, rightF, b0, hk]
theorem right_jr (rd r1 im : Int) (h0 : 0 ≤ rd ∧ rd ≤ 31) (h1 : 0 ≤ r1 ∧ r1 ≤ 31) (h2 : -2048 ≤ im ∧ im ≤ 2047) : rightB 4 rd r1 0 im = true := by
  have hk : okB 3 im = true := (okB_iff 3 im (by omega) (by omega)).2 h2
  have b0 : regB rd = true := decide_eq_true h0
  have b1 : regB r1 = true := decide_eq_true h1
  simp [rightB, shT, rightF, b0, b1, hk]
theorem right_ec (op : Int) (ho : op = 63 ∨ op = 64) : rightB op 0 0 0 0 = true := by
  rcases ho with rfl | rfl <;> simp [rightB, shT, rightF]

end Go.Proofs.YtiandbhcjecphaaGreatDoor.Fu

namespace Go.Proofs.YtiandbhcjecphaaGreatDoor
open Go Go.RowKit

/-- An epilogue of frame f begins at i. -/
def epB (R : Nat → Int) (N : Nat) (f : Int) (i : Nat) : Bool := decide (2 ≤ i ∧ i + 3 ≤ N) && (List.range 15).all fun j => R (i * 5 + j) == epiR f j
theorem epB_iff {R : Nat → Int} {N : Nat} {f : Int} {i : Nat} : epB R N f i = true ↔ (2 ≤ i ∧ i + 3 ≤ N) ∧ ∀ j, j < 15 → R (i * 5 + j) = epiR f j := by
  unfold epB
  rw [Bool.and_eq_true, decide_eq_true_eq, List.all_eq_true]
  constructor
  · exact fun ⟨h, k⟩ => ⟨h, fun j hj => by simpa using k j (by simpa using hj)⟩
  · exact fun ⟨h, k⟩ => ⟨h, fun j hj => by simpa using k j (by simpa using hj)⟩
theorem epB_low {R : Nat → Int} {N : Nat} {f : Int} {i : Nat} (h : i < 2 ∨ N < i + 3) : epB R N f i = false := by
  cases e : epB R N f i with
  | false => rfl
  | true => have := (epB_iff.1 e).1; omega
theorem epB_next {R : Nat → Int} {N : Nat} {f : Int} {i : Nat} (h : epB R N f i = true) : epB R N f (i + 1) = false := by
  cases e : epB R N f (i + 1) with
  | false => rfl
  | true =>
    have h1 := (epB_iff.1 h).2 5 (by omega)
    have h2 := (epB_iff.1 e).2 0 (by omega)
    rw [show (i + 1) * 5 + 0 = i * 5 + 5 from by omega, h1] at h2
    simp [epiR] at h2
theorem epB_next2 {R : Nat → Int} {N : Nat} {f : Int} {i : Nat} (h : epB R N f i = true) : epB R N f (i + 2) = false := by
  cases e : epB R N f (i + 2) with
  | false => rfl
  | true =>
    have h1 := (epB_iff.1 h).2 10 (by omega)
    have h2 := (epB_iff.1 e).2 0 (by omega)
    rw [show (i + 2) * 5 + 0 = i * 5 + 10 from by omega, h1] at h2
    simp [epiR] at h2

/-- Where instruction i stands in an epilogue, of those that begin ahead of m. -/
def partU (R : Nat → Int) (N : Nat) (f : Int) (m i : Nat) : Int :=
  if epB R N f i = true ∧ i < m then 1 else if epB R N f (i - 1) = true ∧ i - 1 < m then 2 else if epB R N f (i - 2) = true ∧ i - 2 < m then 3 else 0
def partI (R : Nat → Int) (N : Nat) (f : Int) (i : Nat) : Int := if epB R N f i = true then 1 else if epB R N f (i - 1) = true then 2 else if epB R N f (i - 2) = true then 3 else 0
theorem ep_at0 {R : Nat → Int} {N : Nat} {f : Int} {i : Nat} (h : epB R N f i = true) : 2 ≤ i := (epB_iff.1 h).1.1
/-- Of what begins one or two ahead, nothing begins here; .. -/
theorem ep_prev {R : Nat → Int} {N : Nat} {f : Int} {i : Nat} (h : epB R N f i = true) : epB R N f (i - 1) = false ∧ epB R N f (i - 2) = false := by
  have h2 := ep_at0 h
  constructor
  · cases e : epB R N f (i - 1) with
    | false => rfl
    | true => have := epB_next e; rw [show i - 1 + 1 = i from by omega, h] at this; cases this
  · cases e : epB R N f (i - 2) with
    | false => rfl
    | true => have := epB_next2 e; rw [show i - 2 + 2 = i from by omega, h] at this; cases this
theorem ep_prev1 {R : Nat → Int} {N : Nat} {f : Int} {i : Nat} (h : epB R N f (i - 1) = true) : epB R N f i = false ∧ epB R N f (i - 2) = false := by
  have h2 := ep_at0 h
  constructor
  · have := epB_next h; rwa [show i - 1 + 1 = i from by omega] at this
  · have := (ep_prev h).1; rwa [show i - 1 - 1 = i - 2 from by omega] at this
theorem ep_prev2 {R : Nat → Int} {N : Nat} {f : Int} {i : Nat} (h : epB R N f (i - 2) = true) : epB R N f i = false ∧ epB R N f (i - 1) = false := by
  have h2 := ep_at0 h
  constructor
  · have := epB_next2 h; rwa [show i - 2 + 2 = i from by omega] at this
  · have := epB_next h; rwa [show i - 2 + 1 = i - 1 from by omega] at this
theorem part_ret (R : Nat → Int) (N : Nat) (f : Int) (i : Nat) : (partI R N f i = 3) ↔ epB R N f (i - 2) = true := by
  unfold partI
  constructor
  · intro h
    split at h
    · omega
    · split at h
      · omega
      · split at h
        · assumption
        · omega
  · intro h
    obtain ⟨h0, h1⟩ := ep_prev2 h
    simp [h0, h1, h]
theorem part_go (R : Nat → Int) (N : Nat) (f : Int) (i : Nat) : (partI R N f i = 0 ∨ partI R N f i = 1) ↔ (epB R N f (i - 1) = false ∧ epB R N f (i - 2) = false) := by
  unfold partI
  by_cases h : epB R N f i = true
  · obtain ⟨h1, h2⟩ := ep_prev h
    simp [h, h1, h2]
  · by_cases h1 : epB R N f (i - 1) = true
    · simp [h, h1]
    · by_cases h2 : epB R N f (i - 2) = true
      · simp [h, h1, h2]
      · simp [h, h1, h2]
theorem part_one (R : Nat → Int) (N : Nat) (f : Int) (i : Nat) : partI R N f i = 1 ↔ epB R N f i = true := by
  unfold partI
  constructor
  · intro h
    split at h
    · assumption
    · split at h
      · omega
      · split at h <;> omega
  · intro h; rw [if_pos h]
theorem part_two (R : Nat → Int) (N : Nat) (f : Int) (i : Nat) : partI R N f i = 2 ↔ epB R N f (i - 1) = true := by
  unfold partI
  constructor
  · intro h
    split at h
    · omega
    · split at h
      · assumption
      · split at h <;> omega
  · intro h
    rw [(ep_prev1 h).1, if_neg (by simp), if_pos h]
theorem part_bd (R : Nat → Int) (N : Nat) (f : Int) (i : Nat) : 0 ≤ partI R N f i ∧ partI R N f i ≤ 3 := by
  unfold partI
  split
  · omega
  · split
    · omega
    · split <;> omega

/-- A jump from i by im bytes goes to where one may go. -/
def goB (R : Nat → Int) (N : Nat) (f : Int) (i : Nat) (im : Int) : Bool :=
  decide (im % 4 = 0) && (decide (2 ≤ (i : Int) + im / 4 ∧ (i : Int) + im / 4 < N) && (!epB R N f (((i : Int) + im / 4).toNat - 1) && !epB R N f (((i : Int) + im / 4).toNat - 2)))

/-- x is one of zs. -/
def hasB (zs : List Int) (x : Int) : Bool := zs.contains x
/-- The rule for instruction i behind the prologue. -/
def ruI (R : Nat → Int) (N : Nat) (f at' : Int) (zs : List Int) (wd : Int → Int) (i : Nat) : Int :=
  if R (i * 5) = 4 then (if epB R N f (i - 2) = true then 0 else 18)
  else if R (i * 5) = 3 then
    (if R (i * 5 + 1) = 1 then (if hasB zs (at' + 4 * i + R (i * 5 + 4)) = true then 0 else 20)
     else if R (i * 5 + 1) = 0 ∧ goB R N f i (R (i * 5 + 4)) = true then 0 else 19)
  else if 5 ≤ R (i * 5) ∧ R (i * 5) ≤ 10 then (if goB R N f i (R (i * 5 + 4)) = true then 0 else 19)
  else if (R (i * 5 + 1) = 1 ∧ epB R N f i = false) ∨ (R (i * 5 + 1) = 2 ∧ epB R N f (i - 1) = false) then 21
  else if (11 ≤ R (i * 5) ∧ R (i * 5) ≤ 21) ∧ R (i * 5 + 2) = 2 ∧ epB R N f i = false ∧ ¬ (0 ≤ R (i * 5 + 4) ∧ R (i * 5 + 4) ≤ f - 8 - wd (R (i * 5)) ∧ R (i * 5 + 4) % wd (R (i * 5)) = 0) then 17
  else 0
end Go.Proofs.YtiandbhcjecphaaGreatDoor

namespace Go.Proofs.YtiandbhcjecphaaGreatDoor
open Go Go.RowKit
set_option linter.unusedVariables false

/-- A list of ints: its elements. -/
def IntsAt (w : World) (p : Option Addr) (zs : List Int) : Prop := zs.length = 0 ∨ ∃ b o, p = some ⟨b, o, none⟩ ∧ b < w.heap.size ∧ Rdb w b o zs.length (fun i => zs.getD i 0)
theorem IntsAt.below {w w' : World} {p : Option Addr} {zs : List Int} (h : IntsAt w p zs) (hb : Below w.heap.size w w') : IntsAt w' p zs := by
  rcases h with h | ⟨b, o, h1, h2, h3⟩
  · exact .inl h
  · exact .inr ⟨b, o, h1, Nat.lt_of_lt_of_le h2 hb.size, h3.below hb h2⟩

/-- A function under check, at block F: its list (block g), its parts (block q), its place, its frame, what it may call. -/
structure FnIs (w : World) (F g q N cl cq : Nat) (pc : Option Addr) (cc : Nat) (at' f : Int) (R P : Nat → Int) (zs : List Int) : Prop where
  c0 : w.cell? ⟨F, 0, none⟩ = some (.slice (some ⟨g, 0, none⟩) N cl)
  c1 : w.cell? ⟨F, 1, none⟩ = some (.slice (some ⟨q, 0, none⟩) N cq)
  c2 : w.cell? ⟨F, 2, none⟩ = some (.int .i64 at')
  c3 : w.cell? ⟨F, 3, none⟩ = some (.int .i64 f)
  c4 : w.cell? ⟨F, 4, none⟩ = some (.slice pc zs.length cc)
  l : Rdb w g 0 (N * 5) R
  p : Rdb w q 0 N P
  z : IntsAt w pc zs
  lF : F < w.heap.size
  lg : g < w.heap.size
  lq : q < w.heap.size
theorem FnIs.below {w w' : World} {F g q N cl cq : Nat} {pc : Option Addr} {cc : Nat} {at' f : Int} {R P : Nat → Int} {zs : List Int} (h : FnIs w F g q N cl cq pc cc at' f R P zs) (hb : Below w.heap.size w w') : FnIs w' F g q N cl cq pc cc at' f R P zs :=
  ⟨(hb.cell (p := ⟨F, 0, none⟩) h.lF).trans h.c0, (hb.cell (p := ⟨F, 1, none⟩) h.lF).trans h.c1, (hb.cell (p := ⟨F, 2, none⟩) h.lF).trans h.c2, (hb.cell (p := ⟨F, 3, none⟩) h.lF).trans h.c3, (hb.cell (p := ⟨F, 4, none⟩) h.lF).trans h.c4,
    h.l.below hb h.lg, h.p.below hb h.lq, h.z.below hb, Nat.lt_of_lt_of_le h.lF hb.size, Nat.lt_of_lt_of_le h.lg hb.size, Nat.lt_of_lt_of_le h.lq hb.size⟩
theorem FnIs.drew {w : World} {F g q N cl cq : Nat} {pc : Option Addr} {cc : Nat} {at' f : Int} {R P : Nat → Int} {zs : List Int} (h : FnIs w F g q N cl cq pc cc at' f R P zs) : FnIs w.drew F g q N cl cq pc cc at' f R P zs := ⟨h.c0, h.c1, h.c2, h.c3, h.c4, h.l, h.p, h.z, h.lF, h.lg, h.lq⟩

/-- What is known of a right instruction's numbers. -/
structure Small5 (R : Nat → Int) (i : Nat) : Prop where
  o0 : 1 ≤ R (i * 5)
  o1 : R (i * 5) ≤ 64
  i0 : -2147483648 ≤ R (i * 5 + 4)
  i1 : R (i * 5 + 4) ≤ 2147483647

theorem faultC (b : Bool) (c : Int) (w : World) :
    Calls Tryz.prog 75 #[.bool b, .int .i64 c] w fun e w' => e = .returned (.int .i64 (if b = true then 0 else c)) ∧ w' = w := by
  cases b
  · go_enter Tryz.func75, Tryz.ntmps75
    go_wp2
    go_ret
    exact ⟨rfl, rfl⟩
  · go_enter Tryz.func75, Tryz.ntmps75
    go_wp2
    go_ret
    exact ⟨rfl, rfl⟩

theorem isCallC (op rd r1 r2 im : Int) (w : World) :
    Calls Tryz.prog 29 #[.agg #[.int .i64 op, .int .i64 rd, .int .i64 r1, .int .i64 r2, .int .i64 im]] w fun e w' => e = .returned (.bool (decide (op = 3 ∧ rd = 1))) ∧ Below w.heap.size w w' := by
  by_cases h : op = 3
  · subst h
    go_enter Tryz.func29, Tryz.ntmps29
    go_wp2
    go_ret
    exact ⟨congrArg (fun x => Ending.returned (.bool x)) (by rw [Bool.eq_iff_iff]; simp), (Below.refl _ _).alloc (Nat.le_refl _) _⟩
  · have hb : (op == 3) = false := by simpa using h
    go_enter Tryz.func29, Tryz.ntmps29
    go_wp2
    go_ret
    exact ⟨congrArg (fun x => Ending.returned (.bool x)) (by simp [h]), (Below.refl _ _).alloc (Nat.le_refl _) _⟩

theorem mayEndC (op rd r1 r2 im : Int) (w : World) :
    Calls Tryz.prog 50 #[.agg #[.int .i64 op, .int .i64 rd, .int .i64 r1, .int .i64 r2, .int .i64 im]] w fun e w' => e = .returned (.bool (decide (op = 4 ∨ (op = 3 ∧ rd = 0)))) ∧ Below w.heap.size w w' := by
  by_cases h4 : op = 4
  · subst h4
    go_enter Tryz.func50, Tryz.ntmps50
    go_wp2
    go_ret
    exact ⟨congrArg (fun x => Ending.returned (.bool x)) (by simp), (Below.refl _ _).alloc (Nat.le_refl _) _⟩
  have hb4 : (op == 4) = false := by simpa using h4
  by_cases h : op = 3
  · subst h
    go_enter Tryz.func50, Tryz.ntmps50
    go_wp2
    go_ret
    exact ⟨congrArg (fun x => Ending.returned (.bool x)) (by rw [Bool.eq_iff_iff]; simp), (Below.refl _ _).alloc (Nat.le_refl _) _⟩
  · have hb : (op == 3) = false := by simpa using h
    go_enter Tryz.func50, Tryz.ntmps50
    go_wp2
    go_ret
    exact ⟨congrArg (fun x => Ending.returned (.bool x)) (by simp [h, h4]), (Below.refl _ _).alloc (Nat.le_refl _) _⟩

theorem targetC (at' : Int) (i : Nat) (op rd r1 r2 im : Int) (w : World) (h0 : 0 ≤ at') (h1 : at' ≤ 1048575) (hi : i < 20000) (h2 : -2147483648 ≤ im) (h3 : im ≤ 2147483647) :
    Calls Tryz.prog 30 #[.int .i64 at', .int .i64 i, .agg #[.int .i64 op, .int .i64 rd, .int .i64 r1, .int .i64 r2, .int .i64 im]] w fun e w' => e = .returned (.int .i64 (at' + 4 * i + im)) ∧ Below w.heap.size w w' := by
  go_enter Tryz.func30, Tryz.ntmps30
  go_wp2
  go_ret
  exact ⟨rfl, (Below.refl _ _).alloc (Nat.le_refl _) _⟩

set_option maxHeartbeats 1000000 in
/-- slices.Contains over ints. -/
theorem indexC (p : Option Addr) (c : Nat) (zs : List Int) (x : Int) (w : World) (hn : zs.length ≤ 1048576) (hp : IntsAt w p zs) :
    Calls Tryz.prog 123 #[.slice p zs.length c, .int .i64 x] w fun e w' => (∃ r : Int, e = .returned (.int .i64 r) ∧ (zs.contains x = true ↔ 0 ≤ r)) ∧ w' = w := by
  obtain ⟨n, hN⟩ : ∃ n, zs.length = n := ⟨_, rfl⟩
  rw [hN] at hn ⊢
  go_enter Tryz.func123, Tryz.ntmps123
  go_wp2
  go_loop [8] (fun i => ∃ k : Nat, k ≤ n ∧ i = .int .i64 k ∧ ∀ j, j < k → zs.getD j 0 ≠ x) (fun i => n - (intOf i).toNat)
  case atStart => exact ⟨0, Nat.zero_le _, rfl, fun j hj => absurd hj (Nat.not_lt_zero _)⟩
  case round =>
    obtain ⟨k, hk, rfl, hno⟩ := hrel
    by_cases hlt : k < n
    · rcases hp with hp | ⟨b, o, rfl, hb, hp⟩
      · omega
      have hx : w.cell? ⟨b, o + k, none⟩ = some (.int .i64 (zs.getD k 0)) := hp k (by omega)
      by_cases e : zs.getD k 0 = x
      · have hx' : w.cell? ⟨b, o + k, none⟩ = some (.int .i64 x) := by rw [← e]; exact hx
        clear hp hx
        go_wp2
        go_ret
        refine ⟨⟨_, rfl, ?_⟩, rfl⟩
        have hm : x ∈ zs := by
          rw [← e]
          have : zs.getD k 0 = zs[k]'(by omega) := by simp [List.getD, hN, hlt]
          rw [this]
          exact List.getElem_mem _
        constructor
        · intro _; omega
        · intro _; simpa using hm
      · have e' : ¬ (x = zs.getD k 0) := fun h => e h.symm
        obtain ⟨y, hy⟩ : ∃ y, zs.getD k 0 = y := ⟨_, rfl⟩
        rw [hy] at hx e e'
        have HY : Hid (zs.getD k 0 = y) := hy
        clear hp hy
        go_wp2
        go_round
        case rel => exact ⟨k + 1, by omega, by go_num, fun j hj => by
          rcases Nat.lt_succ_iff_lt_or_eq.1 hj with h | rfl
          · exact hno j h
          · rw [HY.out]; exact e⟩
        case measure => simp [intOf]; omega
    · obtain rfl : k = n := by omega
      go_wp2
      go_ret
      refine ⟨⟨-1, rfl, ?_⟩, rfl⟩
      constructor
      · intro h
        obtain ⟨j, hj, e⟩ := List.mem_iff_getElem.1 (by simpa using h : x ∈ zs)
        exact absurd (by simp [List.getD, hj, e]) (hno j (by omega))
      · intro h; omega
theorem containsC (p : Option Addr) (c : Nat) (zs : List Int) (x : Int) (w : World) (hn : zs.length ≤ 1048576) (hp : IntsAt w p zs) :
    Calls Tryz.prog 105 #[.slice p zs.length c, .int .i64 x] w fun e w' => e = .returned (.bool (hasB zs x)) ∧ w' = w := by
  unfold hasB
  go_enter Tryz.func105, Tryz.ntmps105
  go_wp2_with (go_at_call 123; refine (indexC p c zs x _ hn hp).mono ?_; rintro e w' ⟨⟨r, rfl, hr⟩, rfl⟩)
  go_ret
  exact ⟨congrArg (fun x => Ending.returned (.bool x)) (by rw [Bool.eq_iff_iff, hr]; simp), rfl⟩

section
variable {F g q N cl cq : Nat} {pc : Option Addr} {cc : Nat} {at' f : Int} {R P : Nat → Int} {zs : List Int}

theorem inFrameC (im n : Int) (w : World) (h : FnIs w F g q N cl cq pc cc at' f R P zs) (f0 : 16 ≤ f) (f1 : f ≤ 128) (h2 : -2147483648 ≤ im) (h3 : im ≤ 2147483647) (hn : n = 1 ∨ n = 2 ∨ n = 4 ∨ n = 8) :
    Calls Tryz.prog 107 #[.pointer (some ⟨F, 0, none⟩), .int .i64 im, .int .i64 n] w fun e w' => e = .returned (.bool (decide (0 ≤ im ∧ im ≤ f - 8 - n ∧ im % n = 0))) ∧ w' = w := by
  have c3 := h.c3
  clear h
  rcases hn with rfl | rfl | rfl | rfl
  all_goals
    by_cases hm : im < 0
    · go_enter Tryz.func107, Tryz.ntmps107
      go_wp2
      all_goals
        go_ret
        refine ⟨congrArg (fun x => Ending.returned (.bool x)) ?_, rfl⟩
        first
          | rfl
          | (symm; rw [decide_eq_false_iff_not]; omega)
          | (rw [Bool.eq_iff_iff]; simp; done)
          | (rw [Bool.eq_iff_iff]; simp; omega)
    · have hm' : 0 ≤ im := by omega
      go_enter Tryz.func107, Tryz.ntmps107
      go_wp2
      all_goals
        go_ret
        refine ⟨congrArg (fun x => Ending.returned (.bool x)) ?_, rfl⟩
        first
          | rfl
          | (symm; rw [decide_eq_false_iff_not]; omega)
          | (rw [Bool.eq_iff_iff]; simp; done)
          | (rw [Bool.eq_iff_iff]; simp; omega)

theorem mayJumpC (i : Nat) (w : World) (h : FnIs w F g q N cl cq pc cc at' f R P zs) (hi : i < N) (hN : N ≤ 64) (hP : ∀ i, i < N → P i = partI R N f i) (hs : Small5 R i) :
    Calls Tryz.prog 77 #[.pointer (some ⟨F, 0, none⟩), .int .i64 i] w fun e w' => e = .returned (.bool (goB R N f i (R (i * 5 + 4)))) ∧ w' = w := by
  have c0 := h.c0
  have c1 := h.c1
  have x4 := (h.l.five hi).2.2.2.2
  have hi0 := hs.i0
  have hi1 := hs.i1
  have hp := h.p
  have HG : Hid (goB R N f i (R (i * 5 + 4)) = _) := rfl
  obtain ⟨im, him⟩ : ∃ im, R (i * 5 + 4) = im := ⟨_, rfl⟩
  rw [him] at x4 hi0 hi1 ⊢
  simp only [Nat.zero_add] at x4
  clear h HG him
  by_cases hm : im % 4 = 0
  · obtain ⟨d, hd⟩ : ∃ d, im / 4 = d := ⟨_, rfl⟩
    have e1 : im = 4 * d := by omega
    subst e1
    have hm1 : (4 * d).tmod 4 = 0 := by rw [Int.mul_comm]; exact Int.mul_tmod_left d 4
    have hd1 : (4 * d).tdiv 4 = d := Int.mul_tdiv_cancel_left d (by omega)
    by_cases ht0 : (i : Int) + d < 2
    · have hg : goB R N f i (4 * d) = false := by unfold goB; simp [hd]; omega
      rw [hg]
      clear hd hm
      go_enter Tryz.func77, Tryz.ntmps77
      go_wp2
      go_ret
      exact ⟨rfl, rfl⟩
    · by_cases ht1 : (N : Int) ≤ (i : Int) + d
      · have hg : goB R N f i (4 * d) = false := by unfold goB; simp [hd]; omega
        rw [hg]
        clear hd hm
        go_enter Tryz.func77, Tryz.ntmps77
        go_wp2
        go_ret
        exact ⟨rfl, rfl⟩
      · obtain ⟨t, ht⟩ : ∃ t : Nat, (i : Int) + d = t := ⟨((i : Int) + d).toNat, by omega⟩
        have htN : t < N := by omega
        have ht2 : 2 ≤ t := by omega
        have hpt := hp t htN
        have hPt := hP t htN
        have hg : goB R N f i (4 * d) = (!epB R N f (t - 1) && !epB R N f (t - 2)) := by
          unfold goB
          rw [hd, ht]
          simp
          omega
        rw [hg]
        have hpg := part_go R N f t
        rw [← hPt] at hpg
        obtain ⟨v, hv⟩ : ∃ v, P t = v := ⟨_, rfl⟩
        rw [hv] at hpt hpg
        simp only [Nat.zero_add] at hpt
        clear hd hm hg hp hP hPt hv
        by_cases hv0 : v = 0
        · subst hv0
          obtain ⟨g1, g2⟩ := hpg.1 (.inl rfl)
          rw [g1, g2]
          clear hpg g1 g2
          go_enter Tryz.func77, Tryz.ntmps77
          go_wp2
          go_ret
          exact ⟨rfl, rfl⟩
        · have hv0b : (v == 0) = false := by simpa using hv0
          by_cases hv1 : v = 1
          · subst hv1
            obtain ⟨g1, g2⟩ := hpg.1 (.inr rfl)
            rw [g1, g2]
            clear hpg g1 g2
            go_enter Tryz.func77, Tryz.ntmps77
            go_wp2
            go_ret
            exact ⟨rfl, rfl⟩
          · have hv1b : (v == 1) = false := by simpa using hv1
            have hg : (!epB R N f (t - 1) && !epB R N f (t - 2)) = false := by
              cases h1 : epB R N f (t - 1)
              · cases h2 : epB R N f (t - 2)
                · rcases hpg.2 ⟨h1, h2⟩ with h | h
                  · exact absurd h hv0
                  · exact absurd h hv1
                · rfl
              · rfl
            rw [hg]
            clear hpg hg
            go_enter Tryz.func77, Tryz.ntmps77
            go_wp2
            go_ret
            exact ⟨congrArg (fun x => Ending.returned (.bool x)) (by first | rfl | simp [hv0b, hv1b]), rfl⟩
  · have hg : goB R N f i im = false := by unfold goB; simp [hm]
    have hm1 : ¬ (im.tmod 4 = 0) := by
      intro e
      exact hm (Int.emod_eq_zero_of_dvd (Int.dvd_of_tmod_eq_zero e))
    rw [hg]
    go_enter Tryz.func77, Tryz.ntmps77
    go_wp2
    go_ret
    exact ⟨rfl, rfl⟩

set_option maxHeartbeats 8000000 in
theorem mayCallC (i : Nat) (w : World) (h : FnIs w F g q N cl cq pc cc at' f R P zs) (hi : i < N) (hN : N ≤ 64) (hz : zs.length ≤ 1048576) (h0 : 0 ≤ at') (h1 : at' ≤ 1048575) (hs : Small5 R i) :
    Calls Tryz.prog 76 #[.pointer (some ⟨F, 0, none⟩), .int .i64 i] w fun e w' => e = .returned (.bool (hasB zs (at' + 4 * i + R (i * 5 + 4)))) ∧ Below w.heap.size w w' := by
  have c0 := h.c0
  have c2 := h.c2
  have c4 := h.c4
  obtain ⟨x0, x1, x2, x3, x4⟩ := h.l.five hi
  simp only [Nat.zero_add] at x0 x1 x2 x3 x4
  have hz0 := h.z
  have lF := h.lF
  have lg := h.lg
  have i0 := hs.i0
  have i1 := hs.i1
  clear hs h
  go_enter Tryz.func76, Tryz.ntmps76
  go_wp2
  obtain ⟨W0, hW0⟩ : ∃ W0, W0 = w := ⟨_, rfl⟩
  go_region_held3 (fun w' => w'.cell? ⟨F, 0, none⟩ = some (.slice (some ⟨g, 0, none⟩) N cl) ∧ w'.cell? ⟨F, 2, none⟩ = some (.int .i64 at') ∧ w'.cell? ⟨F, 4, none⟩ = some (.slice pc zs.length cc) ∧ w'.cell? ⟨g, i * 5, none⟩ = some (.int .i64 (R (i * 5))) ∧ w'.cell? ⟨g, i * 5 + 1, none⟩ = some (.int .i64 (R (i * 5 + 1))) ∧ w'.cell? ⟨g, i * 5 + 2, none⟩ = some (.int .i64 (R (i * 5 + 2))) ∧ w'.cell? ⟨g, i * 5 + 3, none⟩ = some (.int .i64 (R (i * 5 + 3))) ∧ w'.cell? ⟨g, i * 5 + 4, none⟩ = some (.int .i64 (R (i * 5 + 4)))) (go_keep) (first | (go_at_call 30; refine (targetC at' i _ _ _ _ _ _ h0 h1 (by omega) i0 i1).mono ?_; rintro e w1 ⟨rfl, hb1⟩; have B1 : Below w.heap.size w w1 := (by first | exact hb1 | exact (Below.refl w.heap.size w).drew.trans hb1); have d0 := (B1.cell (p := ⟨F, 0, none⟩) lF).trans c0; have d2 := (B1.cell (p := ⟨F, 2, none⟩) lF).trans c2; have d4 := (B1.cell (p := ⟨F, 4, none⟩) lF).trans c4; have y0 := (B1.cell (p := ⟨g, i * 5, none⟩) lg).trans x0; have y1 := (B1.cell (p := ⟨g, i * 5 + 1, none⟩) lg).trans x1; have y2 := (B1.cell (p := ⟨g, i * 5 + 2, none⟩) lg).trans x2; have y3 := (B1.cell (p := ⟨g, i * 5 + 3, none⟩) lg).trans x3; have y4 := (B1.cell (p := ⟨g, i * 5 + 4, none⟩) lg).trans x4; have hz1 := hz0.below B1) | (go_at_call 105; refine (containsC pc cc zs _ _ hz hz1).mono ?_; rintro e w2 ⟨rfl, rfl⟩))
  have B2 : Hid (Below w.heap.size w w2) := B1
  clear hb1 B1 hz1 d0 d2 d4 y0 y1 y2 y3 y4
  go_wp2
  go_ret
  exact ⟨rfl, B2.out⟩

end
end Go.Proofs.YtiandbhcjecphaaGreatDoor

namespace Go.Proofs.YtiandbhcjecphaaGreatDoor
open Go Go.RowKit
set_option linter.unusedVariables false
section
variable {F g q N cl cq : Nat} {pc : Option Addr} {cc : Nat} {at' f : Int} {R P : Nat → Int} {zs : List Int}

/-- The width of a load or store. -/
theorem wd_in {op : Int} (h0 : 11 ≤ op) (h1 : op ≤ 21) : wdN op = 1 ∨ wdN op = 2 ∨ wdN op = 4 ∨ wdN op = 8 := by
  unfold wdN
  have : op = 11 ∨ op = 12 ∨ op = 13 ∨ op = 14 ∨ op = 15 ∨ op = 16 ∨ op = 17 ∨ op = 18 ∨ op = 19 ∨ op = 20 ∨ op = 21 := by omega
  rcases this with rfl | rfl | rfl | rfl | rfl | rfl | rfl | rfl | rfl | rfl | rfl <;> simp

/-- The rule for what goes nowhere. -/
def plI (R : Nat → Int) (N : Nat) (f : Int) (i : Nat) : Int :=
  if (R (i * 5 + 1) = 1 ∧ epB R N f i = false) ∨ (R (i * 5 + 1) = 2 ∧ epB R N f (i - 1) = false) then 21
  else if (11 ≤ R (i * 5) ∧ R (i * 5) ≤ 21) ∧ R (i * 5 + 2) = 2 ∧ epB R N f i = false ∧ ¬ (0 ≤ R (i * 5 + 4) ∧ R (i * 5 + 4) ≤ f - 8 - wdN (R (i * 5)) ∧ R (i * 5 + 4) % wdN (R (i * 5)) = 0) then 17
  else 0
theorem implWidIn (op : Int) (w : World) (h0 : 11 ≤ op) (h1 : op ≤ 21) : Calls Tryz.prog 106 #[.int .i64 op] w fun e w' => e = .returned (.tuple #[.int .i64 (wdN op), .bool (wdS op), .int .i64 0]) ∧ w' = w := by
  have := implWidth op w
  unfold wdR at this
  rw [if_neg (by omega), if_neg (by omega)] at this
  exact this
theorem implWidOut (op : Int) (w : World) (h0 : 1 ≤ op) (h1 : op ≤ 64) (h : op < 11 ∨ 21 < op) : Calls Tryz.prog 106 #[.int .i64 op] w fun e w' => e = .returned (.tuple #[.int .i64 0, .bool false, .int .i64 26]) ∧ w' = w := by
  have := implWidth op w
  unfold wdR at this
  rw [if_neg (by omega), if_pos h] at this
  exact this

set_option maxHeartbeats 8000000 in
theorem plainC (i : Nat) (w : World) (h : FnIs w F g q N cl cq pc cc at' f R P zs) (hi : i < N) (hN : N ≤ 64) (hP : ∀ i, i < N → P i = partI R N f i) (f0 : 16 ≤ f) (f1 : f ≤ 128) (hs : Small5 R i) :
    Calls Tryz.prog 78 #[.pointer (some ⟨F, 0, none⟩), .int .i64 i] w fun e w' => e = .returned (.int .i64 (plI R N f i)) ∧ Below w.heap.size w w' := by
  have c0 := h.c0
  have c1 := h.c1
  obtain ⟨x0, x1, x2, x3, x4⟩ := h.l.five hi
  have p0 := h.p i hi
  simp only [Nat.zero_add] at x0 x1 x2 x3 x4 p0
  rw [hP i hi] at p0
  have q1 := part_one R N f i
  have q2 := part_two R N f i
  have i0 := hs.i0
  have i1 := hs.i1
  have o0 := hs.o0
  have o1 := hs.o1
  obtain ⟨res, hres⟩ : ∃ res, plI R N f i = res := ⟨_, rfl⟩
  rw [hres]
  unfold plI at hres
  obtain ⟨v, hv⟩ : ∃ v, partI R N f i = v := ⟨_, rfl⟩
  obtain ⟨a, ha⟩ : ∃ a, epB R N f i = a := ⟨_, rfl⟩
  obtain ⟨b, hb⟩ : ∃ b, epB R N f (i - 1) = b := ⟨_, rfl⟩
  obtain ⟨op, ho⟩ : ∃ op, R (i * 5) = op := ⟨_, rfl⟩
  obtain ⟨rd, hr⟩ : ∃ rd, R (i * 5 + 1) = rd := ⟨_, rfl⟩
  obtain ⟨r1, hr1⟩ : ∃ r1, R (i * 5 + 2) = r1 := ⟨_, rfl⟩
  obtain ⟨r2, hr2⟩ : ∃ r2, R (i * 5 + 3) = r2 := ⟨_, rfl⟩
  obtain ⟨im, him⟩ : ∃ im, R (i * 5 + 4) = im := ⟨_, rfl⟩
  rw [hv, ha] at q1
  rw [hv, hb] at q2
  rw [hv] at p0
  rw [ho] at x0 o0 o1
  rw [hr] at x1
  rw [hr1] at x2
  rw [hr2] at x3
  rw [him] at x4 i0 i1
  rw [ho, hr, hr1, him, ha, hb] at hres
  clear hv ha hb ho hr hr1 hr2 him hP hs
  have far : ∀ (o : Obj) (b k : Nat) (v : Value), b < w.heap.size → w.cell? ⟨b, k, none⟩ = some v → (w.alloc o).cell? ⟨b, k, none⟩ = some v := fun o b k v hb hv => (((Below.refl w.heap.size w).alloc (Nat.le_refl _) o).cell (p := ⟨b, k, none⟩) hb).trans hv
  have d1 := far (.cells #[.int .i64 0, .int .i64 0, .int .i64 0, .int .i64 0, .int .i64 0] 39) F 1 _ h.lF c1
  have d2 := far (.cells #[.int .i64 0, .int .i64 0, .int .i64 0, .int .i64 0, .int .i64 0] 39) q i _ h.lq p0
  have d3 := far (.cells #[.int .i64 0, .int .i64 0, .int .i64 0, .int .i64 0, .int .i64 0] 39) F 0 _ h.lF c0
  have d4 := far (.cells #[.int .i64 0, .int .i64 0, .int .i64 0, .int .i64 0, .int .i64 0] 39) g (i * 5) _ h.lg x0
  have d5 := far (.cells #[.int .i64 0, .int .i64 0, .int .i64 0, .int .i64 0, .int .i64 0] 39) g (i * 5 + 1) _ h.lg x1
  have d6 := far (.cells #[.int .i64 0, .int .i64 0, .int .i64 0, .int .i64 0, .int .i64 0] 39) g (i * 5 + 2) _ h.lg x2
  have d7 := far (.cells #[.int .i64 0, .int .i64 0, .int .i64 0, .int .i64 0, .int .i64 0] 39) g (i * 5 + 3) _ h.lg x3
  have d8 := far (.cells #[.int .i64 0, .int .i64 0, .int .i64 0, .int .i64 0, .int .i64 0] 39) g (i * 5 + 4) _ h.lg x4
  have e1 := far (.cells #[.int .i64 op, .int .i64 rd, .int .i64 r1, .int .i64 r2, .int .i64 im] 39) F 1 _ h.lF c1
  have e2 := far (.cells #[.int .i64 op, .int .i64 rd, .int .i64 r1, .int .i64 r2, .int .i64 im] 39) q i _ h.lq p0
  clear far
  go_enter Tryz.func78, Tryz.ntmps78
  go_wp2
  go_region
  obtain ⟨W1, hW1⟩ : ∃ W1, (w.alloc (.cells #[.int .i64 op, .int .i64 rd, .int .i64 r1, .int .i64 r2, .int .i64 im] 39)).drew = W1 := ⟨_, rfl⟩
  have B1 : Below w.heap.size w W1 := by rw [← hW1]; exact ((Below.refl _ _).alloc (Nat.le_refl _) _).drew
  have h1 := h.below B1
  have y0 : W1.cell? ⟨w.heap.size, 0, none⟩ = some (.int .i64 op) := by rw [← hW1]; simp
  have y1 : W1.cell? ⟨w.heap.size, 1, none⟩ = some (.int .i64 rd) := by rw [← hW1]; simp
  have y2 : W1.cell? ⟨w.heap.size, 2, none⟩ = some (.int .i64 r1) := by rw [← hW1]; simp
  have y4 : W1.cell? ⟨w.heap.size, 4, none⟩ = some (.int .i64 im) := by rw [← hW1]; simp
  rw [hW1]
  clear hW1 d1 d2 d3 d4 d5 d6 d7 d8 e1 e2 c0 c1 x0 x1 x2 x3 x4 p0 h
  have hres : Hid (_ = res) := hres
  have HB : Hid (Below w.heap.size w W1) := B1
  clear B1
  -- a register that may not be written
  by_cases hbad : (rd = 1 ∧ a = false) ∨ (rd = 2 ∧ b = false)
  · have hr21 : res = 21 := by rw [← hres.out, if_pos hbad]
    subst hr21
    rcases hbad with ⟨rfl, rfl⟩ | ⟨rfl, rfl⟩
    · have hv1 : (v == 1) = false := by
        have : ¬ v = 1 := fun e => by have := q1.1 e; cases this
        simpa using this
      have hv1' : ¬ v = 1 := by simpa using hv1
      clear q1 q2 hres
      go_wp2
      go_ret
      exact ⟨rfl, HB.out⟩
    · have hv1' : ¬ v = 2 := fun e => by have := q2.1 e; cases this
      clear q1 q2 hres
      go_wp2
      go_ret
      exact ⟨rfl, HB.out⟩
  rw [if_neg hbad] at hres
  have hA : (rd = 1 ∧ v = 1) ∨ (rd = 2 ∧ v = 2) ∨ (¬ rd = 1 ∧ ¬ rd = 2) := by
    by_cases e1 : rd = 1
    · left
      refine ⟨e1, q1.2 ?_⟩
      cases a
      · exact absurd (.inl ⟨e1, rfl⟩) hbad
      · rfl
    · by_cases e2 : rd = 2
      · right; left
        refine ⟨e2, q2.2 ?_⟩
        cases b
        · exact absurd (.inr ⟨e2, rfl⟩) hbad
        · rfl
      · exact .inr (.inr ⟨e1, e2⟩)
  by_cases hop : 11 ≤ op ∧ op ≤ 21
  · obtain ⟨p0, p1⟩ := hop
    have hw := wd_in p0 p1
    by_cases hr2 : r1 = 2
    · by_cases hv1 : v = 1
      · have hz : res = 0 := by rw [← hres.out, if_neg]; intro hh; have := q1.1 hv1; rw [this] at hh; cases hh.2.2.1
        subst hz hr2 hv1
        clear q1 q2 hres hbad
        rcases hA with ⟨rfl, _⟩ | ⟨rfl, hx⟩ | ⟨g1, g2⟩
        · go_wp2_with (go_at_call 106; refine (implWidIn op _ p0 p1).mono ?_; rintro e w' ⟨rfl, rfl⟩)
          go_ret
          exact ⟨rfl, HB.out⟩
        · exact absurd hx (by omega)
        · go_wp2_with (go_at_call 106; refine (implWidIn op _ p0 p1).mono ?_; rintro e w' ⟨rfl, rfl⟩)
          go_ret
          exact ⟨rfl, HB.out⟩
      · have ha : a = false := by cases a; rfl; exact absurd (q1.2 rfl) hv1
        subst ha hr2
        have hfr := fun w' hh => inFrameC (F := F) (g := g) (q := q) (N := N) (cl := cl) (cq := cq) (pc := pc) (cc := cc) (at' := at') (f := f) (R := R) (P := P) (zs := zs) im (wdN op) w' hh f0 f1 i0 i1 hw
        cases hd : decide (0 ≤ im ∧ im ≤ f - 8 - wdN op ∧ im % wdN op = 0) with
        | true =>
          have hz : res = 0 := by rw [← hres.out, if_neg]; intro hh; exact hh.2.2.2 (of_decide_eq_true hd)
          subst hz
          rw [hd] at hfr
          clear q1 q2 hres hbad hd hw
          rcases hA with ⟨rfl, hx⟩ | ⟨rfl, hx⟩ | ⟨g1, g2⟩
          · exact absurd hx hv1
          all_goals
            go_wp2_with (first | (go_at_call 106; refine (implWidIn op _ p0 p1).mono ?_; rintro e w' ⟨rfl, rfl⟩) | (go_at_call 107; refine (hfr _ h1).mono ?_; rintro e w' ⟨rfl, rfl⟩))
            go_ret
            exact ⟨rfl, HB.out⟩
        | false =>
          have hz : res = 17 := by rw [← hres.out, if_pos]; exact ⟨⟨p0, p1⟩, rfl, rfl, of_decide_eq_false hd⟩
          subst hz
          rw [hd] at hfr
          clear q1 q2 hres hbad hd hw
          rcases hA with ⟨rfl, hx⟩ | ⟨rfl, hx⟩ | ⟨g1, g2⟩
          · exact absurd hx hv1
          all_goals
            go_wp2_with (first | (go_at_call 106; refine (implWidIn op _ p0 p1).mono ?_; rintro e w' ⟨rfl, rfl⟩) | (go_at_call 107; refine (hfr _ h1).mono ?_; rintro e w' ⟨rfl, rfl⟩))
            go_ret
            exact ⟨rfl, HB.out⟩
    · have hz : res = 0 := by rw [← hres.out, if_neg]; intro hh; exact hr2 hh.2.1
      subst hz
      have hr2b : (r1 == 2) = false := by simpa using hr2
      clear q1 q2 hres hbad hw
      rcases hA with ⟨rfl, rfl⟩ | ⟨rfl, rfl⟩ | ⟨g1, g2⟩
      all_goals
        go_wp2_with (go_at_call 106; refine (implWidIn op _ p0 p1).mono ?_; rintro e w' ⟨rfl, rfl⟩)
        go_ret
        exact ⟨rfl, HB.out⟩
  · have hz : res = 0 := by rw [← hres.out, if_neg]; intro hh; exact hop hh.1
    have hop' : op < 11 ∨ 21 < op := by omega
    subst hz
    clear q1 q2 hres hbad hop
    rcases hA with ⟨rfl, rfl⟩ | ⟨rfl, rfl⟩ | ⟨g1, g2⟩
    all_goals
      go_wp2_with (go_at_call 106; refine (implWidOut op _ o0 o1 hop').mono ?_; rintro e w' ⟨rfl, rfl⟩)
      go_ret
      exact ⟨rfl, HB.out⟩
end
end Go.Proofs.YtiandbhcjecphaaGreatDoor
