/- ReadInstr of the program: the walk. Reading an instruction in the model: what it finds. ReadInstr of the program: words that are told. The words of a joined text; plain. Reading an instruction: both find the same; plain. An instruction's word: plain. The fixed bits of a word, by the program: the contract. Encode of the program: the contract. Contracts of both OpName. ShapeOf of the model at an operation, without the comparison of the law of ShapeOf. What the law of texts asks of a right instruction: its text read back, with blanks around, with a word more; plain, and the program's contracts at it. The source of draws: what one byte drawn leaves. Sources, choices: contracts. Bytes, choices and words drawn out of a source. Which word is an instruction of which shape: plain. The bits of a word that are alike in all instructions of one Op: contracts. Which word is an instruction of which shape: plain (2). Bits laid into a word whose place is free: plain. An instruction's word laid bit by bit: plain. An instruction's word laid bit by bit: plain (2). Contracts of the model's bits and signs. Bits laid into a word whose place is free, by the model: the contract. An instruction's word, by the model: the steps. An instruction's word, by the model: form 1. An instruction's word, by the model: form 2. An instruction's word, by the model: form 3. An instruction's word, by the model: form 4. An instruction's word, by the model: form 5. An instruction's word, by the model: form 6. An instruction's word, by the model: form 7. An instruction's word, by the model: form 8. An instruction's word, by the model: form 9. Encode of the model: the contract. Which word is an instruction of which shape: plain (3). Which word is an instruction of which shape: plain (4). An instruction taken apart: words. What the taking apart leans on. Instructions drawn out of a source: contracts. -/
import Derived.Test.YtdbngfeelfgbeaaGreatDoorGLTexts38
import Derived.Test.YtdbngfeelfgbeaaGreatDoorGLTexts39
import Derived.Test.YtdbngfeelfgbeaaGreatDoorGLTexts40
import Derived.Test.YtdbngfeelfgbeaaGreatDoorGLTexts37
import Derived.Test.YtdbngfeelfgbeaaGreatDoorGLTexts11
import Derived.Test.YtdbngfeelfgbeaaGreatDoorGLTexts12
import Derived.Test.YtdbngfeelfgbeaaGreatDoorGLTexts21
import Derived.Test.YtdbngfeelfgbeaaGreatDoorGLTexts26
import Derived.Deep.RegionHeld3
import Derived.Test.YtdbngfeelfgbeaaGreatDoorGLTexts5
import Derived.Test.YtdbngfeelfgbeaaGreatDoorGLTexts20
import Derived.Test.YtdbngfeelfgbeaaGreatDoorGLTexts9
import Derived.Test.YtdbngfeelfgbeaaGreatDoorRows
import Derived.WalkKit
import Derived.WalkSpells
import Derived.WalkLawsBesides
import Derived.Below
import Derived.Deep.RegionWith
import Derived.Test.YtdbngfeelfgbeaaGreatDoorGLTexts10
import Derived.Test.YtdbngfeelfgbeaaGreatDoorGLTexts15
import Derived.Test.YtdbngfeelfgbeaaGreatDoorGLTexts16
import Derived.Test.YtdbngfeelfgbeaaGreatDoorGLTexts32
import Derived.Test.YtdbngfeelfgbeaaGreatDoorGLTexts19
import Derived.LoopTactic
namespace Go.Proofs.YtdbngfeelfgbeaaGreatDoor.Tx
open Go.RowKit
set_option linter.unusedVariables false

structure Q where
  rd : Int
  r1 : Int
  r2 : Int
  im : Int
def setL (l : UInt8) (v : Int) (q : Q) : Q := if l = 100 then { q with rd := v } else if l = 49 then { q with r1 := v } else if l = 50 then { q with r2 := v } else { q with im := v }
def FiveQ (w : World) (b : Nat) (op : Int) (q : Q) : Prop := Five w b op q.rd q.r1 q.r2 q.im
theorem five_set {w : World} {b : Nat} {op : Int} {q : Q} (h : FiveQ w b op q) (l : UInt8) (hl : letterOK l) (v : Int) : FiveQ (w.setCell ⟨b, offL l, none⟩ (.int .i64 v)) b op (setL l v q) := by
  rcases hl with rfl | rfl | rfl | rfl
  · exact h.set1 v
  · exact h.set2 v
  · exact h.set3 v
  · exact h.set4 v
theorem five_free {w : World} {b : Nat} {op : Int} {q : Q} (h : FiveQ w b op q) (l : UInt8) (hl : letterOK l) : w.frozen? ⟨b, offL l, none⟩ = false ∧ ∃ u, w.cell? ⟨b, offL l, none⟩ = some u := by
  rcases hl with rfl | rfl | rfl | rfl
  · exact ⟨h.f1, _, h.c1⟩
  · exact ⟨h.f2, _, h.c2⟩
  · exact ⟨h.f3, _, h.c3⟩
  · exact ⟨h.f4, _, h.c4⟩
theorem five_oth {w : World} {b d : Nat} {v0 v1 v2 v3 v4 : Int} (h : Five w b v0 v1 v2 v3 v4) (hd : b ≠ d) (k : Nat) (u : Value) : Five (w.setCell ⟨d, k, none⟩ u) b v0 v1 v2 v3 v4 :=
  ⟨(World.cell?_setCell_other _ _ _ _ (by simp <;> omega)).trans h.c0, (World.cell?_setCell_other _ _ _ _ (by simp <;> omega)).trans h.c1, (World.cell?_setCell_other _ _ _ _ (by simp <;> omega)).trans h.c2, (World.cell?_setCell_other _ _ _ _ (by simp <;> omega)).trans h.c3, (World.cell?_setCell_other _ _ _ _ (by simp <;> omega)).trans h.c4,
   (World.frozen?_setCell _ _ _ _).trans h.f0, (World.frozen?_setCell _ _ _ _).trans h.f1, (World.frozen?_setCell _ _ _ _).trans h.f2, (World.frozen?_setCell _ _ _ _).trans h.f3, (World.frozen?_setCell _ _ _ _).trans h.f4⟩

/-- The fields that the first k words tell. -/
def readTo (told : List UInt8) (ws : List ByteArray) : Nat → Option Q
  | 0 => some ⟨0, 0, 0, 0⟩
  | k + 1 => (readTo told ws k).bind fun q => match told[k]?, ws[k]? with
    | some l, some x => if fldK l x.data.toList = true then some (setL l (fldV l x.data.toList) q) else none
    | _, _ => none
theorem readTo_none {told : List UInt8} {ws : List ByteArray} {k : Nat} (h : readTo told ws k = none) : ∀ m, k ≤ m → readTo told ws m = none
  | 0, hm => by
    obtain rfl : k = 0 := by omega
    exact h
  | m + 1, hm => by
    by_cases e : k = m + 1
    · rw [← e]; exact h
    · unfold readTo
      rw [readTo_none h m (by omega)]
      rfl

/-- What the program finds: the operation and its fields. -/
structure ToldBy (f : Int) (told : ByteArray) : Prop where
  call : ∀ w, Calls Tryz.prog 16 #[.int .i64 f] w fun e w' => e = .returned (.string told) ∧ w' = w
  ok : ∀ l ∈ told.data.toList, letterOK l
  few : told.size ≤ 3
theorem told0 (w : World) :
    Calls Tryz.prog 16 #[.int .i64 0] w fun e w' => e = .returned (.string { data := #[] }) ∧ w' = w := by
  go_enter Tryz.func16, Tryz.ntmps16
  go_wp2
  go_ret
  exact ⟨rfl, rfl⟩
theorem wordsTo_size (s : ByteArray) : ∀ i, ∀ x ∈ (wordsTo s i).1, x.size ≤ s.size
  | 0, x, hx => by cases hx
  | i + 1, x, hx => by
    unfold wordsTo stepW at hx
    split at hx
    · simp only at hx
      split at hx
      · rcases List.mem_append.1 hx with h | h
        · exact wordsTo_size s i x h
        · simp only [List.mem_singleton] at h
          subst h
          rw [ByteArray.size_extract]
          omega
      · exact wordsTo_size s i x hx
    · exact wordsTo_size s i x hx

def zero5 : Value := .agg #[.int .i64 0, .int .i64 0, .int .i64 0, .int .i64 0, .int .i64 0]
def agg5 (op : Int) (q : Q) : Value := .agg #[.int .i64 op, .int .i64 q.rd, .int .i64 q.r1, .int .i64 q.r2, .int .i64 q.im]

set_option maxRecDepth 100000 in
set_option maxHeartbeats 4000000 in
theorem readLong (t : ByteArray) (ht : 65536 < t.size) (w : World) :
    Calls Tryz.prog 7 #[.string t] w fun e w' => e = .returned (.tuple #[zero5, .int .i64 2]) ∧ Below w.heap.size w w' := by
  have hi : (65536 : Int) < (t.size : Int) := by omega
  unfold zero5
  go_enter Tryz.func7, Tryz.ntmps7
  go_wp2
  refine bodyPost_ret (v := .tuple #[zero5, .int .i64 2]) (by simp [results, Tryz.results7, go_sem]; rfl) rfl ⟨rfl, ?_⟩
  repeat (first | exact Below.refl _ _ | refine Below.setCell ?_ (by first | omega | (simp; done) | (simp; omega)) _ | refine bdN ?_ _ | refine Below.drew ?_ | refine Below.alloc ?_ (by first | omega | (simp; done) | (simp; omega)) _)

set_option maxRecDepth 100000 in
set_option maxHeartbeats 4000000 in
theorem readEmpty (t : ByteArray) (ht : t.size ≤ 65536) (h0 : (wordsB t).length = 0) (w : World) :
    Calls Tryz.prog 7 #[.string t] w fun e w' => e = .returned (.tuple #[zero5, .int .i64 3]) ∧ Below w.heap.size w w' := by
  have hi : ¬ (65536 : Int) < (t.size : Int) := by omega
  go_enter Tryz.func7, Tryz.ntmps7
  go_wp2_with fail
  refine (blankP t (by omega) _).mono ?_
  rintro e w1 ⟨A, rfl, _, hb⟩
  have F1 : Five w1 w.heap.size 0 0 0 0 0 := Five.below (by constructor <;> simp) hb (by simp <;> omega)
  have B1 : Below w.heap.size w w1 := ((Below.refl _ _).alloc (Nat.le_refl _) _).trans (hb.mono (by simp))
  clear hb
  rw [h0]
  obtain ⟨c0, c1, c2, c3, c4, f0, f1, f2, f3, f4⟩ := F1
  go_wp2
  refine bodyPost_ret (v := .tuple #[zero5, .int .i64 3]) (by simp [results, Tryz.results7, go_sem, c0, c1, c2, c3, c4]; rfl) rfl ⟨rfl, ?_⟩
  repeat (first | exact B1 | refine Below.setCell ?_ (by first | omega | (simp; done) | (simp; omega)) _ | refine bdN ?_ _ | refine Below.drew ?_ | refine Below.alloc ?_ (by first | omega | (simp; done) | (simp; omega)) _)
end Go.Proofs.YtdbngfeelfgbeaaGreatDoor.Tx

namespace Go.Proofs.YtdbngfeelfgbeaaGreatDoor.Tx
open Go.RowKit
set_option linter.unusedVariables false

/-- The register that word i tells. -/
def rg (rest : List ByteArray) (i : Nat) : Int := match rest[i]? with
  | some x => regN x.data.toList
  | none => 0
def ints (l : List Int) : List Value := l.map (Value.int .i64)
def rgs (rest : List ByteArray) (k : Nat) : List Int := (List.range k).map (rg rest)
theorem rgs_snoc (rest : List ByteArray) (k : Nat) : ints (rgs rest k) ++ ints [rg rest k] = ints (rgs rest (k + 1)) := by
  simp [rgs, ints, List.range_succ]
theorem rgs_len (rest : List ByteArray) (k : Nat) : (ints (rgs rest k)).length = k := by simp [rgs, ints]
def pickV (b : Bool) (x y : Value) : Value := match b with
  | true => x
  | false => y
def slLen (v : Value) : Nat := match v with
  | .slice _ n _ => n
  | _ => 0
/-- The last word. -/
def lastW (w0 : ByteArray) (rest : List ByteArray) : ByteArray := ((w0 :: rest)[rest.length]?).getD ⟨#[]⟩
def modQ (f : Int) (rest : List ByteArray) (v : Int) : Q :=
  if f = 1 ∨ f = 2 then ⟨rg rest 0, 0, 0, v⟩
  else if f = 3 ∨ f = 6 ∨ f = 7 then ⟨rg rest 0, rg rest 1, 0, v⟩
  else if f = 4 then ⟨0, rg rest 0, rg rest 1, v⟩
  else if f = 5 then ⟨0, rg rest 1, rg rest 0, v⟩
  else if f = 8 then ⟨rg rest 0, rg rest 1, rg rest 2, 0⟩
  else ⟨0, 0, 0, 0⟩
def modK (f : Int) (k : Bool) : Bool := if f = 8 ∨ f = 9 then true else k
theorem regN_bd (l : List UInt8) : -1 ≤ regN l ∧ regN l ≤ 31 := by
  unfold regN
  split
  · rename_i h
    have := regB_bd h.2.2.2
    omega
  · omega
theorem rg_bd (rest : List ByteArray) (i : Nat) : In64 (rg rest i) := by
  unfold rg In64
  split
  · rename_i x _
    have := regN_bd x.data.toList
    omega
  · omega
theorem numV_bd (l : List UInt8) : In64 (numV l) := by
  unfold numV In64
  cases h : numB l with
  | none => simp
  | some v =>
    have := num_atoi h
    simp
    omega
theorem Tryz.info_int : (Tryz.prog.info? 3).map (fun i => (i.zero, i.size, i.bytes)) = some (some (.int .i64 0), 1, 8) := by kernel_rfl
theorem modQ_in (f : Int) (rest : List ByteArray) (v : Int) (hv : In64 v) : In64 (modQ f rest v).rd ∧ In64 (modQ f rest v).r1 ∧ In64 (modQ f rest v).r2 ∧ In64 (modQ f rest v).im := by
  have z : In64 0 := by unfold In64; omega
  have h := rg_bd rest
  unfold modQ
  repeat' split
  all_goals exact ⟨by first | exact h _ | exact z, by first | exact h _ | exact z, by first | exact h _ | exact z, by first | exact hv | exact z⟩
end Go.Proofs.YtdbngfeelfgbeaaGreatDoor.Tx

namespace Go.Proofs.YtdbngfeelfgbeaaGreatDoor.Tx
open Go.RowKit
set_option linter.unusedVariables false

theorem lastT_le (s : ByteArray) : ∀ n, Op.lastT s n ≤ n
  | 0 => Nat.le_refl _
  | n + 1 => by
    have := lastT_le s n
    unfold Op.lastT
    split <;> omega
theorem told_by (K : Nat) (hK : K ≤ 64) : ∃ told, ToldBy (shT (K : Int)).1 told := by
  by_cases h : 1 ≤ K
  · have hf := shT_form (K : Int) (by omega) (by omega)
    obtain ⟨told, ht⟩ := told_all _ hf.1 hf.2
    exact ⟨told, ht.call, ht.ok, ht.few⟩
  · obtain rfl : K = 0 := by omega
    exact ⟨⟨#[]⟩, told0, by simp, by decide⟩

set_option maxRecDepth 100000 in
set_option maxHeartbeats 8000000 in
theorem readSome (t : ByteArray) (ht : t.size ≤ 65536) (w0 : ByteArray) (rest : List ByteArray) (hws : wordsB t = w0 :: rest) (K : Nat) (hK : Op.lastT w0 64 = K) (f c g h : Int) (hs : shT (K : Int) = (f, c, g, h)) (told : ByteArray) (htold : ToldBy f told) (w : World) (hL : Rd.Laid w) :
    Calls Tryz.prog 7 #[.string t] w fun e w' => (rest.length = told.size → ∀ q, readTo told.data.toList rest told.size = some q → rightB K q.rd q.r1 q.r2 q.im = true → e = .returned (.tuple #[agg5 K q, .int .i64 0])) ∧
      (¬ (rest.length = told.size ∧ ∃ q, readTo told.data.toList rest told.size = some q ∧ rightB K q.rd q.r1 q.r2 q.im = true) → e = .returned (.tuple #[zero5, .int .i64 3])) ∧ Below w.heap.size w w' := by
  have hi : ¬ (65536 : Int) < (t.size : Int) := by omega
  obtain ⟨tcall, tok, tfew⟩ := htold
  have tcall : Hid (∀ w, Calls Tryz.prog 16 #[.int .i64 f] w fun e w' => e = .returned (.string told) ∧ w' = w) := tcall
  have hs : Hid (shT (K : Int) = (f, c, g, h)) := hs
  have hszs : ∀ x ∈ w0 :: rest, x.size ≤ 65536 := fun x hx => by
    rw [← hws] at hx
    exact Nat.le_trans (wordsTo_size t _ x hx) ht
  have hwl : (w0 :: rest).length ≤ 65537 := by
    rw [← hws]
    exact Nat.le_trans (wordsTo_len t _) (by omega)
  have hlen : (wordsB t).length = rest.length + 1 := by rw [hws]; rfl
  have hrl : (rest.length : Int) ≤ 65536 := by simp at hwl; omega
  have hw0 : w0.size ≤ maxLen := by have := hszs w0 (by simp); unfold maxLen; omega
  obtain ⟨n, hn⟩ : ∃ n, rest.length = n := ⟨_, rfl⟩
  have hOf : Hid (∀ w, Op.Laid w → Calls Tryz.prog 12 #[.string w0] w fun e w' => e = .returned (.int .i64 (K : Nat)) ∧ Below w.heap.size w w') := fun w hw => by rw [← hK]; exact Op.implOf w0 w hw hw0
  clear hK hw0
  go_enter Tryz.func7, Tryz.ntmps7
  go_wp2_with fail
  refine (blankP t (by omega) _).mono ?_
  rintro e w1 ⟨A, rfl, hown, hb⟩
  have T1 := texts_of hown
  rw [hws] at T1
  obtain ⟨g0, c0, hv, hg0, hcells⟩ := T1.at' (by simp)
  have F1 : Five w1 w.heap.size 0 0 0 0 0 := Five.below (by constructor <;> simp) hb (by simp <;> omega)
  have B1 : Below w.heap.size w w1 := ((Below.refl _ _).alloc (Nat.le_refl _) _).trans (hb.mono (by simp))
  have hAz : w.heap.size < A := by
    rcases hown.2 with ⟨h1, _⟩ | ⟨g1, _, _, h1, h2, _⟩
    · cases h1
    · injection h1 with h1
      injection h1 with h1
      injection h1 with h1
      simp at h2
      omega
  obtain rfl : g0 = A := by
    injection hv with hv
    injection hv with hv
    injection hv with hv
    exact hv.symm
  have hC0 := hcells 0 w0 rfl
  rw [hlen, hn]
  rw [hn] at hrl
  clear hb hown T1 hv hlen hws hwl hi
  have hne : ((n : Int) + 1 == 0) = false := by rw [beq_eq_false_iff_ne]; omega
  have hnp : (0 : Int) < (n : Int) + 1 := by omega
  go_wp2_with fail
  refine (hOf.out _ (Rd.laid_below hL B1).x.o).mono ?_
  rintro e w2 ⟨rfl, hb2⟩
  have z1 : w.heap.size < w1.heap.size := Nat.lt_trans hAz hg0
  have F2 : Five w2 w.heap.size 0 0 0 0 0 := F1.below hb2 z1
  have B2 : Below w.heap.size w w2 := B1.trans (hb2.mono B1.size)
  have hg2 : g0 < w2.heap.size := Nat.lt_of_lt_of_le hg0 hb2.size
  have hcells2 : ∀ (j : Nat) (x : ByteArray), (w0 :: rest)[j]? = some x → w2.cell? ⟨g0, j, none⟩ = some (.string x) := fun j x hj => (hb2.cell (p := ⟨g0, j, none⟩) hg0).trans (hcells j x hj)
  clear hb2 F1 B1 hg0 hcells hC0 z1 hOf
  go_wp2_with fail
  have hbA : Below w2.heap.size w2 (w2.alloc (.cells #[.int .i64 (K : Int), .int .i64 0, .int .i64 0, .int .i64 0, .int .i64 0] 24)) := (Below.refl _ _).alloc (Nat.le_refl _) _
  refine (shapeCs (K : Int) f c g h _ hs.out).mono ?_
  rintro e w4 ⟨rfl, hb4⟩
  have z2 : w.heap.size < w2.heap.size := Nat.lt_trans hAz hg2
  have F4 : Hid (Five w4 w.heap.size 0 0 0 0 0) := (F2.below hbA z2).below hb4 (by simp; omega)
  have X4 : Hid (FiveQ w4 w2.heap.size (K : Int) ⟨0, 0, 0, 0⟩) := Five.below (by constructor <;> simp) hb4 (by simp)
  have B4 : Below w.heap.size w w4 := B2.trans ((hbA.trans (hb4.mono hbA.size)).mono B2.size)
  have hx4 : w2.heap.size < w4.heap.size := by have := hb4.size; simp at this; omega
  have hg4 : g0 < w4.heap.size := Nat.lt_trans hg2 hx4
  have hcells4 : Hid (∀ (j : Nat) (x : ByteArray), (w0 :: rest)[j]? = some x → w4.cell? ⟨g0, j, none⟩ = some (.string x)) := fun j x hj => (hb4.cell (p := ⟨g0, j, none⟩) (by simp; omega)).trans ((hbA.cell (p := ⟨g0, j, none⟩) hg2).trans (hcells2 j x hj))
  obtain ⟨X, hX⟩ : ∃ X, X = w2.heap.size := ⟨_, rfl⟩
  rw [← hX] at X4 hx4 hg2 z2
  clear hb4 hbA F2 B2 hcells2 hs
  have hgX : g0 ≠ X := by omega
  have hrX : w.heap.size ≠ X := by omega
  rw [← hX]
  clear hX
  have hfd := shField0 f c g h
  go_wp2_with fail
  refine (tcall.out _).mono ?_
  rintro e w5 ⟨rfl, rfl⟩
  clear tcall hfd
  by_cases hlen : n = told.size
  case neg =>
    have h1 : ((n : Int) + 1 == (1 : Int) + (told.size : Int)) = false := by rw [beq_eq_false_iff_ne]; omega
    have h2 : ((n : Int) + 1 != (1 : Int) + (told.size : Int)) = true := by rw [bne_iff_ne]; omega
    have h3 : (told.size : Int) ≤ 3 := by omega
    obtain ⟨c0, c1, c2, c3, c4, f0, f1, f2, f3, f4⟩ := F4.out
    clear F4 X4 hcells4
    go_wp2
    refine bodyPost_ret (v := .tuple #[zero5, .int .i64 3]) (by simp [results, Tryz.results7, go_sem, c0, c1, c2, c3, c4]; rfl) rfl ⟨fun e => absurd (hn.symm.trans e) hlen, fun _ => rfl, ?_⟩
    repeat (first | exact B4 | refine Below.setCell ?_ (by first | omega | (simp; done) | (simp; omega)) _ | refine bdN ?_ _ | refine Below.drew ?_ | refine Below.alloc ?_ (by first | omega | (simp; done) | (simp; omega)) _)
  subst hlen
  have h1 : ((told.size : Int) + 1 == (1 : Int) + (told.size : Int)) = true := by rw [beq_iff_eq]; omega
  have h2 : ((told.size : Int) + 1 != (1 : Int) + (told.size : Int)) = false := by rw [bne_eq_false_iff_eq]; omega
  have h3 : (told.size : Int) ≤ 3 := by omega
  have hrx : w.heap.size < X := z2
  by_cases hz : told.size = 0
  · have hzi : (told.size : Int) = 0 := by omega
    obtain ⟨tl, htl⟩ : ∃ tl, tl = told.size := ⟨_, rfl⟩
    have hzz : Hid (told.size = 0) := hz
    rw [hz]
    clear hz hzi h1 h2 h3 htl tl
    have h5 : (told.size : Int) = 0 := by have := hzz.out; omega
    have hfound : Hid (readTo told.data.toList rest told.size = some ⟨0, 0, 0, 0⟩) := by show _ = _; rw [hzz.out]; rfl
    go_wp2
    all_goals
      go_loopw [41] (fun t wr => t = .int .i64 0 ∧ wr = w5) (fun _ _ => 0)
      case atStart => exact ⟨rfl, rfl⟩
      case round =>
        obtain ⟨rfl, rfl⟩ := hrel
        have hX := X4
        have hF := F4
        have hbel := B4
        have hxw := hx4
        clear X4 F4 B4 hx4 hcells4
        have hX' := hX.out
        obtain ⟨x0, x1, x2, x3, x4, y0, y1, y2, y3, y4⟩ := hX'
        have hX2 : Hid (FiveQ wr X (K : Int) (⟨0, 0, 0, 0⟩ : Q)) := ⟨x0, x1, x2, x3, x4, y0, y1, y2, y3, y4⟩
        cases hr : rightB (K : Int) (⟨0, 0, 0, 0⟩ : Q).rd (⟨0, 0, 0, 0⟩ : Q).r1 (⟨0, 0, 0, 0⟩ : Q).r2 (⟨0, 0, 0, 0⟩ : Q).im with
        | false =>
          have hno : Hid (¬ (rest.length = told.size ∧ ∃ z, readTo told.data.toList rest told.size = some z ∧ rightB (K : Int) z.rd z.r1 z.r2 z.im = true)) := fun e => by
            obtain ⟨_, z, hz1, hz2⟩ := e
            have hf := hfound.out
            rw [hf] at hz1
            injection hz1 with hz1
            rw [← hz1, hr] at hz2
            cases hz2
          have hyes : Hid (rest.length = told.size → ∀ z, readTo told.data.toList rest told.size = some z → rightB (K : Int) z.rd z.r1 z.r2 z.im = true → False) := fun e z h1 h2 => hno.out ⟨e, z, h1, h2⟩
          have hIns : Hid (∀ w, Go.Proofs.YtdbngfeelfgbeaaGreatDoor.Laid w → Calls Tryz.prog 15 #[.agg #[.int .i64 (K : Int), .int .i64 (⟨0, 0, 0, 0⟩ : Q).rd, .int .i64 (⟨0, 0, 0, 0⟩ : Q).r1, .int .i64 (⟨0, 0, 0, 0⟩ : Q).r2, .int .i64 (⟨0, 0, 0, 0⟩ : Q).im]] w fun e w' => e = .returned (.bool false) ∧ Below w.heap.size w w') := fun w hw => by rw [← hr]; exact insC _ _ _ _ _ w hw
          clear hr
          go_wp2_with fail
          refine (hIns.out _ (Rd.laid_below hL hbel).x.e).mono ?_
          rintro e w6 ⟨rfl, hb6⟩
          have F6 := hF.out.below hb6 (Nat.lt_trans hrx hxw)
          have B6 : Below w.heap.size w w6 := hbel.trans (hb6.mono hbel.size)
          clear hb6 hX hX2 hIns hbel hF
          obtain ⟨c0, c1, c2, c3, c4, f0, f1, f2, f3, f4⟩ := F6
          go_wp2
          refine bodyPost_ret (v := .tuple #[zero5, .int .i64 3]) (by simp [results, Tryz.results7, go_sem, c0, c1, c2, c3, c4]; rfl) rfl ⟨fun e z h1 h2 => (hyes.out e z h1 h2).elim, fun _ => rfl, ?_⟩
          repeat (first | exact B6 | refine Below.setCell ?_ (by first | omega | (simp; done) | (simp; omega)) _ | refine bdN ?_ _ | refine Below.drew ?_ | refine Below.alloc ?_ (by first | omega | (simp; done) | (simp; omega)) _)
        | true =>
          have hyes : Hid (∀ z, readTo told.data.toList rest told.size = some z → z = (⟨0, 0, 0, 0⟩ : Q)) := fun z hz1 => by
            have hf := hfound.out
            rw [hf] at hz1
            injection hz1 with hz1
            exact hz1.symm
          have hno : Hid (rest.length = told.size ∧ ∃ z, readTo told.data.toList rest told.size = some z ∧ rightB (K : Int) z.rd z.r1 z.r2 z.im = true) := ⟨hn, (⟨0, 0, 0, 0⟩ : Q), hfound.out, hr⟩
          have hIns : Hid (∀ w, Go.Proofs.YtdbngfeelfgbeaaGreatDoor.Laid w → Calls Tryz.prog 15 #[.agg #[.int .i64 (K : Int), .int .i64 (⟨0, 0, 0, 0⟩ : Q).rd, .int .i64 (⟨0, 0, 0, 0⟩ : Q).r1, .int .i64 (⟨0, 0, 0, 0⟩ : Q).r2, .int .i64 (⟨0, 0, 0, 0⟩ : Q).im]] w fun e w' => e = .returned (.bool true) ∧ Below w.heap.size w w') := fun w hw => by rw [← hr]; exact insC _ _ _ _ _ w hw
          clear hr
          go_wp2_with fail
          refine (hIns.out _ (Rd.laid_below hL hbel).x.e).mono ?_
          rintro e w6 ⟨rfl, hb6⟩
          have F6 := hF.out.below hb6 (Nat.lt_trans hrx hxw)
          have X6 := Five.below hX2.out hb6 hxw
          have B6 : Below w.heap.size w w6 := hbel.trans (hb6.mono hbel.size)
          clear hb6 hX hX2 hIns hbel hF x0 x1 x2 x3 x4 y0 y1 y2 y3 y4
          obtain ⟨c0, c1, c2, c3, c4, f0, f1, f2, f3, f4⟩ := F6
          obtain ⟨x0, x1, x2, x3, x4, y0, y1, y2, y3, y4⟩ := X6
          go_wp2
          refine bodyPost_ret (v := .tuple #[agg5 (K : Int) (⟨0, 0, 0, 0⟩ : Q), .int .i64 0]) (by simp [results, Tryz.results7, go_sem, c0, c1, c2, c3, c4]; rfl) rfl ⟨fun _ z h1 _ => by rw [hyes.out z h1], fun e => absurd hno.out e, ?_⟩
          repeat (first | exact B6 | refine Below.setCell ?_ (by first | omega | (simp; done) | (simp; omega)) _ | refine bdN ?_ _ | refine Below.drew ?_ | refine Below.alloc ?_ (by first | omega | (simp; done) | (simp; omega)) _)
  · have hzi : (0 : Int) < (told.size : Int) := by omega
    have hzp : 0 < told.size := by omega
    go_wp2
    go_loopw [41] (fun t wr => ∃ k : Nat, ∃ q : Q, k ≤ told.size ∧ t = .int .i64 k ∧ Hid (readTo told.data.toList rest k = some q) ∧ Hid (FiveQ wr X (K : Int) q) ∧ Hid (Five wr w.heap.size 0 0 0 0 0) ∧ Below w.heap.size w wr ∧ X < wr.heap.size ∧ Hid (∀ (j : Nat) (x : ByteArray), (w0 :: rest)[j]? = some x → wr.cell? ⟨g0, j, none⟩ = some (.string x))) (fun t _ => told.size - (intOf t).toNat)
    case atStart => exact ⟨0, ⟨0, 0, 0, 0⟩, Nat.zero_le _, rfl, rfl, X4, F4, B4, hx4, hcells4⟩
    case round =>
      obtain ⟨k, q, hk, rfl, hq, hX, hF, hbel, hxw, hcl⟩ := hrel
      by_cases hlt : k < told.size
      · have hkr : k < rest.length := by omega
        obtain ⟨x, hx⟩ : ∃ x, rest[k]? = some x := ⟨_, List.getElem?_eq_getElem hkr⟩
        have hxm : x ∈ w0 :: rest := List.mem_cons_of_mem _ (List.mem_of_getElem? hx)
        have hxs := hszs x hxm
        have hcx : wr.cell? ⟨g0, 1 + k, none⟩ = some (.string x) := hcl.out (1 + k) x (by rw [Nat.add_comm]; simpa using hx)
        have hcy : wr.cell? ⟨g0, k + 1, none⟩ = some (.string x) := hcl.out (k + 1) x (by simpa using hx)
        have hmem : told[k] ∈ told.data.toList := by
          rw [show told[k] = told.data.toList[k]'(by simpa using hlt) from by simp; rfl]
          exact List.getElem_mem _
        have hl := tok _ hmem
        have htk : told.data.toList[k]? = some told[k] := at_list told k hlt
        obtain ⟨l, hl0⟩ : ∃ l, told[k] = l := ⟨_, rfl⟩
        rw [hl0] at hl htk
        have hk0 : (0 : Int) ≤ (k : Int) := by omega
        have hk1 : (k : Int) < (told.size : Int) := by omega
        have hstep : Hid (readTo told.data.toList rest (k + 1) = if fldK l x.data.toList = true then some (setL l (fldV l x.data.toList) q) else none) := by
          show _ = _
          unfold readTo
          rw [hq.out, htk, hx]
          rfl
        clear hmem htk hx hxm hkr
        go_wp2_with fail
        refine (fldP l x (by omega) _ (Rd.laid_below hL hbel)).mono ?_
        rintro e w6 ⟨rfl, hb6⟩
        have F6 := hF.out.below hb6 (Nat.lt_trans hrx hxw)
        have X6 := Five.below hX.out hb6 hxw
        have B6 : Below w.heap.size w w6 := hbel.trans (hb6.mono hbel.size)
        have hx6 : X < w6.heap.size := Nat.lt_of_lt_of_le hxw hb6.size
        have hcl6 : Hid (∀ (j : Nat) (x : ByteArray), (w0 :: rest)[j]? = some x → w6.cell? ⟨g0, j, none⟩ = some (.string x)) := fun j x hj => (hb6.cell (p := ⟨g0, j, none⟩) (Nat.lt_trans hg2 hxw)).trans (hcl.out j x hj)
        clear hb6 hX hF hbel hxw hcl hcx hcy
        generalize fldV l x.data.toList = v at *
        cases hfk : fldK l x.data.toList with
        | false =>
          have hnone : Hid (readTo told.data.toList rest told.size = none) := readTo_none (k := k + 1) (by rw [hstep.out, if_neg (by rw [hfk]; simp)]) _ (by omega)
          obtain ⟨c0, c1, c2, c3, c4, f0, f1, f2, f3, f4⟩ := F6
          clear hstep hfk hq X6 hcl6
          go_wp2
          refine bodyPost_ret (v := .tuple #[zero5, .int .i64 3]) (by simp [results, Tryz.results7, go_sem, c0, c1, c2, c3, c4]; rfl) rfl ⟨fun e q h1 h2 => (by rw [hnone.out] at h1; cases h1), fun _ => rfl, ?_⟩
          repeat (first | exact B6 | refine Below.setCell ?_ (by first | omega | (simp; done) | (simp; omega)) _ | refine bdN ?_ _ | refine Below.drew ?_ | refine Below.alloc ?_ (by first | omega | (simp; done) | (simp; omega)) _)
        | true =>
          have hsome : Hid (readTo told.data.toList rest (k + 1) = some (setL l v q)) := by show _ = _; rw [hstep.out, if_pos hfk]
          obtain ⟨hfz, u, hu⟩ := five_free X6 l hl
          have R1 : Hid (FiveQ (w6.setCell ⟨X, offL l, none⟩ (.int .i64 v)) X (K : Int) (setL l v q)) := five_set X6 l hl v
          have R2 : Hid (Five (w6.setCell ⟨X, offL l, none⟩ (.int .i64 v)) w.heap.size 0 0 0 0 0) := five_oth F6 (Nat.ne_of_lt hrx) _ _
          have R3 : Below w.heap.size w (w6.setCell ⟨X, offL l, none⟩ (.int .i64 v)) := B6.setCell (Nat.le_of_lt hrx) _
          have R4 : Hid (∀ (j : Nat) (x : ByteArray), (w0 :: rest)[j]? = some x → (w6.setCell ⟨X, offL l, none⟩ (.int .i64 v)).cell? ⟨g0, j, none⟩ = some (.string x)) := fun j x hj => (World.cell?_setCell_other _ _ _ _ (by first | (simp; done) | (simp; omega))).trans (hcl6.out j x hj)
          clear hstep hfk hq X6 F6 B6 hcl6
          go_wp2_with fail
          refine (fldAny l hl X _).mono ?_
          rintro e w7 ⟨rfl, rfl⟩
          go_wp2
          go_roundw
          case rel => exact ⟨k + 1, _, by omega, by go_num, hsome, R1, R2, R3, by simpa using hx6, R4⟩
          case measure => simp [intOf]; omega
      · obtain rfl : k = told.size := by omega
        have hki : ¬ (told.size : Int) < (told.size : Int) := by omega
        clear hcl
        have hX' := hX.out
        obtain ⟨x0, x1, x2, x3, x4, y0, y1, y2, y3, y4⟩ := hX'
        have hX2 : Hid (FiveQ wr X (K : Int) q) := ⟨x0, x1, x2, x3, x4, y0, y1, y2, y3, y4⟩
        cases hr : rightB (K : Int) q.rd q.r1 q.r2 q.im with
        | false =>
          have hno : Hid (¬ (rest.length = told.size ∧ ∃ z, readTo told.data.toList rest told.size = some z ∧ rightB (K : Int) z.rd z.r1 z.r2 z.im = true)) := fun e => by
            obtain ⟨_, z, hz1, hz2⟩ := e
            have hf := hq.out
            rw [hf] at hz1
            injection hz1 with hz1
            rw [← hz1, hr] at hz2
            cases hz2
          have hyes : Hid (rest.length = told.size → ∀ z, readTo told.data.toList rest told.size = some z → rightB (K : Int) z.rd z.r1 z.r2 z.im = true → False) := fun e z h1 h2 => hno.out ⟨e, z, h1, h2⟩
          have hIns : Hid (∀ w, Go.Proofs.YtdbngfeelfgbeaaGreatDoor.Laid w → Calls Tryz.prog 15 #[.agg #[.int .i64 (K : Int), .int .i64 q.rd, .int .i64 q.r1, .int .i64 q.r2, .int .i64 q.im]] w fun e w' => e = .returned (.bool false) ∧ Below w.heap.size w w') := fun w hw => by rw [← hr]; exact insC _ _ _ _ _ w hw
          clear hr
          go_wp2_with fail
          refine (hIns.out _ (Rd.laid_below hL hbel).x.e).mono ?_
          rintro e w6 ⟨rfl, hb6⟩
          have F6 := hF.out.below hb6 (Nat.lt_trans hrx hxw)
          have B6 : Below w.heap.size w w6 := hbel.trans (hb6.mono hbel.size)
          clear hb6 hX hX2 hIns hbel hF
          obtain ⟨c0, c1, c2, c3, c4, f0, f1, f2, f3, f4⟩ := F6
          go_wp2
          refine bodyPost_ret (v := .tuple #[zero5, .int .i64 3]) (by simp [results, Tryz.results7, go_sem, c0, c1, c2, c3, c4]; rfl) rfl ⟨fun e z h1 h2 => (hyes.out e z h1 h2).elim, fun _ => rfl, ?_⟩
          repeat (first | exact B6 | refine Below.setCell ?_ (by first | omega | (simp; done) | (simp; omega)) _ | refine bdN ?_ _ | refine Below.drew ?_ | refine Below.alloc ?_ (by first | omega | (simp; done) | (simp; omega)) _)
        | true =>
          have hyes : Hid (∀ z, readTo told.data.toList rest told.size = some z → z = q) := fun z hz1 => by
            have hf := hq.out
            rw [hf] at hz1
            injection hz1 with hz1
            exact hz1.symm
          have hno : Hid (rest.length = told.size ∧ ∃ z, readTo told.data.toList rest told.size = some z ∧ rightB (K : Int) z.rd z.r1 z.r2 z.im = true) := ⟨hn, q, hq.out, hr⟩
          have hIns : Hid (∀ w, Go.Proofs.YtdbngfeelfgbeaaGreatDoor.Laid w → Calls Tryz.prog 15 #[.agg #[.int .i64 (K : Int), .int .i64 q.rd, .int .i64 q.r1, .int .i64 q.r2, .int .i64 q.im]] w fun e w' => e = .returned (.bool true) ∧ Below w.heap.size w w') := fun w hw => by rw [← hr]; exact insC _ _ _ _ _ w hw
          clear hr
          go_wp2_with fail
          refine (hIns.out _ (Rd.laid_below hL hbel).x.e).mono ?_
          rintro e w6 ⟨rfl, hb6⟩
          have F6 := hF.out.below hb6 (Nat.lt_trans hrx hxw)
          have X6 := Five.below hX2.out hb6 hxw
          have B6 : Below w.heap.size w w6 := hbel.trans (hb6.mono hbel.size)
          clear hb6 hX hX2 hIns hbel hF x0 x1 x2 x3 x4 y0 y1 y2 y3 y4
          obtain ⟨c0, c1, c2, c3, c4, f0, f1, f2, f3, f4⟩ := F6
          obtain ⟨x0, x1, x2, x3, x4, y0, y1, y2, y3, y4⟩ := X6
          go_wp2
          refine bodyPost_ret (v := .tuple #[agg5 (K : Int) q, .int .i64 0]) (by simp [results, Tryz.results7, go_sem, c0, c1, c2, c3, c4]; rfl) rfl ⟨fun _ z h1 _ => by rw [hyes.out z h1], fun e => absurd hno.out e, ?_⟩
          repeat (first | exact B6 | refine Below.setCell ?_ (by first | omega | (simp; done) | (simp; omega)) _ | refine bdN ?_ _ | refine Below.drew ?_ | refine Below.alloc ?_ (by first | omega | (simp; done) | (simp; omega)) _)

end Go.Proofs.YtdbngfeelfgbeaaGreatDoor.Tx

namespace Go.Proofs.YtdbngfeelfgbeaaGreatDoor.Tx
open Go.RowKit
set_option linter.unusedVariables false

theorem txt_list (l : List UInt8) : (txt l).data.toList = l := by simp [txt]
theorem bt_txt (l : List UInt8) (i : Nat) (x : UInt8) (h : l[i]? = some x) : bt (txt l) i = x.toNat := by
  have hi : i < (txt l).size := by rw [txt_size]; exact (List.getElem?_eq_some_iff.1 h).1
  have e := at_list (txt l) i hi
  rw [txt_list, h] at e
  injection e with e
  rw [bt_at _ _ hi, e]
theorem ext_txt (l : List UInt8) (a b : Nat) : (txt l).extract a b = txt ((l.drop a).take (b - a)) := by
  apply ByteArray.ext
  apply Array.toList_inj.1
  rw [txt_list, ← ByteArray.toList_eq, Lib.extract_toList, txt_list]
theorem u8_32 {x : UInt8} (h : x ≠ 32) : x.toNat ≠ 32 := fun e => h (UInt8.toNat_inj.1 e)

/-- One word more. -/
theorem word_step (l pre w post : List UInt8) (acc : List ByteArray) (hl : l = pre ++ w ++ post) (hw : w ≠ []) (hn : ∀ x ∈ w, x ≠ 32) (hp : post = [] ∨ post.head? = some 32)
    (h : wordsTo (txt l) pre.length = (acc, pre.length)) : wordsTo (txt l) (pre.length + w.length + 1) = (acc ++ [txt w], pre.length + w.length + 1) := by
  have hwl : 0 < w.length := List.length_pos_iff.2 hw
  have hsz : (txt l).size = pre.length + w.length + post.length := by rw [txt_size, hl]; simp; omega
  have skip := wordsTo_skip (txt l) pre.length w.length fun j h1 h2 => ⟨by omega, by
    have hjl : j - pre.length < w.length := by omega
    obtain ⟨x, hx, hxw⟩ : ∃ x, w[j - pre.length]? = some x ∧ x ∈ w := ⟨_, List.getElem?_eq_getElem hjl, List.getElem_mem _⟩
    have hj : l[j]? = some x := by
      rw [hl, List.append_assoc, List.getElem?_append_right h1, List.getElem?_append_left hjl, hx]
    rw [bt_txt l j _ hj]
    exact u8_32 (hn _ hxw)⟩
  show stepW (txt l) (wordsTo (txt l) (pre.length + w.length)) (pre.length + w.length) = _
  rw [skip, h]
  unfold stepW
  rw [if_pos, if_pos (by simp; omega), ext_txt]
  · have : (l.drop pre.length).take (pre.length + w.length - pre.length) = w := by
      rw [hl, List.append_assoc, List.drop_left', show pre.length + w.length - pre.length = w.length by omega, List.take_left']
      · rfl
      · rfl
    rw [this]
  · rcases hp with hp | hp
    · left
      rw [hsz, hp]
      simp
    · right
      have : l[pre.length + w.length]? = some 32 := by
        rw [hl, List.getElem?_append_right (by simp)]
        rw [List.head?_eq_getElem?] at hp
        simpa using hp
      rw [bt_txt l _ _ this]
      rfl

def Wd (w : List UInt8) : Prop := w ≠ [] ∧ ∀ x ∈ w, x ≠ 32
theorem tail_words : ∀ (ws : List (List UInt8)) (l pre post : List UInt8) (acc : List ByteArray), l = pre ++ Lib.joinTail [32] ws ++ post → (post = [] ∨ post = [32]) → (∀ w ∈ ws, Wd w) →
    wordsTo (txt l) (pre.length + 1) = (acc, pre.length + 1) → wordsB (txt l) = acc ++ ws.map txt
  | [], l, pre, post, acc, hl, hp, hw, h => by
    have hl : l = pre ++ post := by rw [hl]; simp [Lib.joinTail]
    have hsz : (txt l).size = pre.length + post.length := by rw [txt_size, hl]; simp
    unfold wordsB
    rcases hp with rfl | rfl
    · rw [hsz]
      simp only [List.length_nil, Nat.add_zero]
      rw [h]
      simp
    · rw [hsz]
      show (stepW (txt l) (wordsTo (txt l) (pre.length + 1)) (pre.length + 1)).1 = _
      rw [h]
      unfold stepW
      rw [if_pos (.inl (by rw [hsz]; rfl)), if_neg (by simp)]
      simp
  | b :: t, l, pre, post, acc, hl, hp, hw, h => by
    have hl2 : l = (pre ++ [32]) ++ b ++ (Lib.joinTail [32] t ++ post) := by rw [hl]; simp [Lib.joinTail]
    have hb := hw b (by simp)
    have hpost : (Lib.joinTail [32] t ++ post) = [] ∨ (Lib.joinTail [32] t ++ post).head? = some 32 := by
      cases t with
      | nil => rcases hp with rfl | rfl <;> simp [Lib.joinTail]
      | cons c r => right; simp [Lib.joinTail]
    have hs := word_step l (pre ++ [32]) b _ acc hl2 hb.1 hb.2 hpost (by simpa using h)
    have := tail_words t l (pre ++ [32] ++ b) post (acc ++ [txt b]) (by rw [hl2]; simp) hp (fun w hm => hw w (by simp [hm])) (by
      have e : (pre ++ [32] ++ b).length + 1 = (pre ++ [32]).length + b.length + 1 := by simp; omega
      rw [e]
      exact hs)
    rw [this]
    simp
/-- The words of words that are joined. -/
theorem join_words (n : List UInt8) (ws : List (List UInt8)) (l pre post : List UInt8) (hl : l = pre ++ Lib.join (n :: ws) [32] ++ post) (hp : post = [] ∨ post = [32]) (hn : Wd n) (hw : ∀ w ∈ ws, Wd w)
    (h : wordsTo (txt l) pre.length = ([], pre.length)) : wordsB (txt l) = (n :: ws).map txt := by
  rw [Lib.join_cons] at hl
  have hl2 : l = pre ++ n ++ (Lib.joinTail [32] ws ++ post) := by rw [hl]; simp
  have hpost : (Lib.joinTail [32] ws ++ post) = [] ∨ (Lib.joinTail [32] ws ++ post).head? = some 32 := by
    cases ws with
    | nil => rcases hp with rfl | rfl <;> simp [Lib.joinTail]
    | cons c r => right; simp [Lib.joinTail]
  have hs := word_step l pre n _ [] hl2 hn.1 hn.2 hpost h
  have := tail_words ws l (pre ++ n) post [txt n] (by rw [hl2]; simp) hp hw (by
    have e : (pre ++ n).length + 1 = pre.length + n.length + 1 := by simp
    rw [e]
    simpa using hs)
  rw [this]
  rfl
theorem lead0 (l : List UInt8) : wordsTo (txt l) ([] : List UInt8).length = ([], ([] : List UInt8).length) := rfl
theorem lead2 (l r : List UInt8) (h : l = [32, 32] ++ r) : wordsTo (txt l) ([32, 32] : List UInt8).length = ([], ([32, 32] : List UInt8).length) := by
  have h0 : bt (txt l) 0 = 32 := by rw [bt_txt l 0 32 (by rw [h]; rfl)]; rfl
  have h1 : bt (txt l) 1 = 32 := by rw [bt_txt l 1 32 (by rw [h]; rfl)]; rfl
  show stepW (txt l) (stepW (txt l) ([], 0) 0) 1 = ([], 2)
  have e1 : stepW (txt l) ([], 0) 0 = ([], 1) := by
    unfold stepW
    rw [if_pos (.inr h0), if_neg (by simp)]
  rw [e1]
  unfold stepW
  rw [if_pos (.inr h1)]
  simp

theorem digs_ok (m : Nat) : ∀ x ∈ Lib.decDigits m, x ≠ 32 := by
  intro x hx e
  subst e
  obtain ⟨k, hk⟩ := List.getElem?_of_mem hx
  obtain ⟨d, hd⟩ := Lib.digit_of_decFrom _ _ _ (dec_back m) k 32 hk
  have : Lib.digitVal 32 = none := by decide
  rw [this] at hd
  cases hd
theorem itoa_ok (v : Int) : Wd (Lib.itoa v) := by
  by_cases hv : v < 0
  · obtain ⟨m, rfl⟩ : ∃ m : Nat, v = -(m : Int) := ⟨v.natAbs, by omega⟩
    rw [Lib.itoa_neg m (by omega)]
    refine ⟨by simp, fun x hx => ?_⟩
    rcases List.mem_cons.1 hx with rfl | hx
    · decide
    · exact digs_ok m x hx
  · obtain ⟨m, rfl⟩ : ∃ m : Nat, v = (m : Int) := ⟨v.toNat, by omega⟩
    rw [Lib.itoa_nonneg]
    exact ⟨decDigits_ne m, digs_ok m⟩
theorem wordF_ok (l : UInt8) (v : Int) : Wd (wordF l v) := by
  unfold wordF
  split
  · exact itoa_ok v
  · refine ⟨by simp, fun x hx => ?_⟩
    rcases List.mem_append.1 hx with hx | hx
    · simp only [List.mem_singleton] at hx
      subst hx
      decide
    · exact (itoa_ok v).2 x hx
set_option maxRecDepth 100000 in
theorem name_ok (K : Nat) (h1 : 1 ≤ K) (h2 : K ≤ 64) : Wd (Op.words.getD K []) := by
  have key : ∀ j : Nat, j < 65 → 1 ≤ j → Op.words.getD j [] ≠ [] ∧ ∀ x ∈ Op.words.getD j [], x ≠ 32 := by decide +kernel
  exact key K (by omega) h1

/-- The letters of a form's fields, in the order of its text. -/
def letters (f : Int) : List UInt8 :=
  if f = 1 ∨ f = 2 then [100, 105] else if f = 3 ∨ f = 6 ∨ f = 7 then [100, 49, 105] else if f = 4 then [49, 50, 105] else if f = 5 then [50, 49, 105] else if f = 8 then [100, 49, 50] else []
theorem letters_told (f : Int) (h0 : 1 ≤ f) (h1 : f ≤ 9) : ToldBy f (txt (letters f)) := by
  rcases (show f = 1 ∨ f = 2 ∨ f = 3 ∨ f = 4 ∨ f = 5 ∨ f = 6 ∨ f = 7 ∨ f = 8 ∨ f = 9 by omega) with rfl | rfl | rfl | rfl | rfl | rfl | rfl | rfl | rfl
  · exact ⟨told1, by simp [letters, txt, letterOK], by decide⟩
  · exact ⟨told2, by simp [letters, txt, letterOK], by decide⟩
  · exact ⟨told3, by simp [letters, txt, letterOK], by decide⟩
  · exact ⟨told4, by simp [letters, txt, letterOK], by decide⟩
  · exact ⟨told5, by simp [letters, txt, letterOK], by decide⟩
  · exact ⟨told6, by simp [letters, txt, letterOK], by decide⟩
  · exact ⟨told7, by simp [letters, txt, letterOK], by decide⟩
  · exact ⟨told8, by simp [letters, txt, letterOK], by decide⟩
  · exact ⟨told9, by simp [letters, txt, letterOK], by decide⟩
theorem textL_join (f : Int) (h0 : 1 ≤ f) (h1 : f ≤ 9) (n : List UInt8) (rd r1 r2 im : Int) : textL f n rd r1 r2 im = Lib.join (n :: fieldsL (letters f) rd r1 r2 im) [32] := by
  rcases (show f = 1 ∨ f = 2 ∨ f = 3 ∨ f = 4 ∨ f = 5 ∨ f = 6 ∨ f = 7 ∨ f = 8 ∨ f = 9 by omega) with rfl | rfl | rfl | rfl | rfl | rfl | rfl | rfl | rfl <;>
    simp [letters, Lib.join_cons, Lib.joinTail, fieldsL, wordF, valL, textL, regT, immT]
theorem fieldsL_ok (told : List UInt8) (rd r1 r2 im : Int) : ∀ w ∈ fieldsL told rd r1 r2 im, Wd w := by
  intro w hw
  obtain ⟨l, _, rfl⟩ := List.mem_map.1 hw
  exact wordF_ok _ _
theorem text_words (K : Nat) (hK1 : 1 ≤ K) (hK64 : K ≤ 64) (rd r1 r2 im : Int) :
    wordsB (txt (textB K rd r1 r2 im)) = txt (Op.words.getD K []) :: (fieldsL (letters (shT (K : Int)).1) rd r1 r2 im).map txt := by
  have hf := shT_form (K : Int) (by omega) (by omega)
  unfold textB
  rw [textL_join _ hf.1 hf.2, Int.toNat_natCast]
  exact join_words _ _ _ [] [] (by simp) (.inl rfl) (name_ok K hK1 hK64) (fieldsL_ok _ _ _ _ _) (lead0 _)
end Go.Proofs.YtdbngfeelfgbeaaGreatDoor.Tx

namespace Go.Proofs.YtdbngfeelfgbeaaGreatDoor.Tx
open Go.RowKit
set_option linter.unusedVariables false

theorem numK_some {t : List UInt8} (h : numK t = true) : numB t = some (numV t) := by
  unfold numK at h
  unfold numV
  obtain ⟨v, hv⟩ := Option.isSome_iff_exists.1 h
  rw [hv]
  rfl
theorem numK_itoa {t : List UInt8} (h : numK t = true) : Lib.itoa (numV t) = t := (num_atoi (numK_some h)).2.1
theorem num_itoa {v : Int} (h0 : -1000000000000000000 < v) (h1 : v < 1000000000000000000) : numV (Lib.itoa v) = v ∧ numK (Lib.itoa v) = true := by
  have := num_small h0 h1
  unfold numV numK
  rw [this]
  exact ⟨rfl, rfl⟩
theorem head_cons {t : List UInt8} {x : UInt8} (h : t.head? = some x) : t = x :: t.tail := by
  cases t with
  | nil => cases h
  | cons a r =>
    simp only [List.head?_cons, Option.some.injEq] at h
    rw [h]
    rfl
/-- A field's word that is read is the word of what was read. -/
theorem fld_fwd {l : UInt8} {t : List UInt8} (h : fldK l t = true) : wordF l (fldV l t) = t := by
  unfold fldK at h
  unfold fldV wordF
  by_cases e : l = 105
  · rw [if_pos e] at h ⊢
    rw [if_pos e]
    exact numK_itoa h
  · rw [if_neg e] at h ⊢
    rw [if_neg e]
    by_cases e2 : t.head? = some 120
    · rw [if_pos e2] at h ⊢
      rw [numK_itoa h]
      exact (head_cons e2).symm
    · rw [if_neg e2] at h
      cases h
theorem fld_back (l : UInt8) {v : Int} (h0 : -1000000000000000000 < v) (h1 : v < 1000000000000000000) : fldK l (wordF l v) = true ∧ fldV l (wordF l v) = v := by
  obtain ⟨a, b⟩ := num_itoa h0 h1
  unfold fldK fldV wordF
  by_cases e : l = 105
  · rw [if_pos e, if_pos e, if_pos e]
    exact ⟨b, a⟩
  · rw [if_neg e, if_neg e, if_neg e]
    simp [a, b]
/-- A register's word. -/
theorem reg_fwd {l : UInt8} {t : List UInt8} (hl : l ≠ 105) (h : fldK l t = true) (hr : regB (fldV l t) = true) : regN t = fldV l t := by
  unfold fldK at h
  unfold fldV at hr ⊢
  rw [if_neg hl] at h hr ⊢
  by_cases e2 : t.head? = some 120
  · rw [if_pos e2] at h hr ⊢
    unfold regN
    rw [if_pos]
    refine ⟨?_, e2, h, hr⟩
    have ht := head_cons e2
    have hn : t.tail ≠ [] := fun e => by
      rw [e] at h
      revert h
      decide
    rw [ht]
    have := List.length_pos_iff.2 hn
    simp only [List.length_cons]
    omega
  · rw [if_neg e2] at h
    cases h
theorem readTo_some {told : List UInt8} {ws : List ByteArray} {k : Nat} {q : Q} (h : readTo told ws (k + 1) = some q) :
    ∃ p l x, readTo told ws k = some p ∧ told[k]? = some l ∧ ws[k]? = some x ∧ fldK l x.data.toList = true ∧ q = setL l (fldV l x.data.toList) p := by
  unfold readTo at h
  obtain ⟨p, hp, h⟩ := Option.bind_eq_some_iff.1 h
  cases hl : told[k]? with
  | none => simp [hl] at h
  | some l =>
    cases hx : ws[k]? with
    | none => simp [hl, hx] at h
    | some x =>
      simp only [hl, hx] at h
      split at h
      · rename_i hf
        injection h with h
        exact ⟨p, l, x, hp, rfl, rfl, hf, h.symm⟩
      · cases h
theorem readTo_step {told : List UInt8} {ws : List ByteArray} {k : Nat} {p : Q} {l : UInt8} {x : ByteArray} (h : readTo told ws k = some p) (hl : told[k]? = some l) (hx : ws[k]? = some x) (hf : fldK l x.data.toList = true) :
    readTo told ws (k + 1) = some (setL l (fldV l x.data.toList) p) := by
  unfold readTo
  rw [h]
  simp only [Option.bind_some, hl, hx, hf, if_true]

def lst (rest : List ByteArray) : List (List UInt8) := rest.map fun x => x.data.toList
theorem three {rest : List ByteArray} (h : rest.length = 3) : ∃ a b c, rest = [a, b, c] := by
  match rest, h with
  | [a, b, c], _ => exact ⟨a, b, c, rfl⟩
theorem two {rest : List ByteArray} (h : rest.length = 2) : ∃ a b, rest = [a, b] := by
  match rest, h with
  | [a, b], _ => exact ⟨a, b, rfl⟩

/-- Three fields that are read. -/
theorem read3 {l1 l2 l3 : UInt8} {a b c : ByteArray} {q : Q} (h : readTo [l1, l2, l3] [a, b, c] 3 = some q) :
    fldK l1 a.data.toList = true ∧ fldK l2 b.data.toList = true ∧ fldK l3 c.data.toList = true ∧ q = setL l3 (fldV l3 c.data.toList) (setL l2 (fldV l2 b.data.toList) (setL l1 (fldV l1 a.data.toList) ⟨0, 0, 0, 0⟩)) := by
  obtain ⟨p2, m3, x3, h2, e1, e2, k3, rfl⟩ := readTo_some h
  obtain ⟨p1, m2, x2, h1, f1, f2, k2, rfl⟩ := readTo_some h2
  obtain ⟨p0, m1, x1, h0, g1, g2, k1, rfl⟩ := readTo_some h1
  clear h h2 h1
  injection h0 with h0
  subst h0
  simp only [List.getElem?_cons_succ, List.getElem?_cons_zero, Option.some.injEq] at e1 e2 f1 f2 g1 g2
  subst e1; subst e2; subst f1; subst f2; subst g1; subst g2
  exact ⟨k1, k2, k3, rfl⟩
theorem read2 {l1 l2 : UInt8} {a b : ByteArray} {q : Q} (h : readTo [l1, l2] [a, b] 2 = some q) :
    fldK l1 a.data.toList = true ∧ fldK l2 b.data.toList = true ∧ q = setL l2 (fldV l2 b.data.toList) (setL l1 (fldV l1 a.data.toList) ⟨0, 0, 0, 0⟩) := by
  obtain ⟨p1, m2, x2, h1, f1, f2, k2, rfl⟩ := readTo_some h
  obtain ⟨p0, m1, x1, h0, g1, g2, k1, rfl⟩ := readTo_some h1
  clear h h1
  injection h0 with h0
  subst h0
  simp only [List.getElem?_cons_succ, List.getElem?_cons_zero, Option.some.injEq] at f1 f2 g1 g2
  subst f1; subst f2; subst g1; subst g2
  exact ⟨k1, k2, rfl⟩
theorem back3 {l1 l2 l3 : UInt8} {a b c : ByteArray} (h1 : fldK l1 a.data.toList = true) (h2 : fldK l2 b.data.toList = true) (h3 : fldK l3 c.data.toList = true) :
    readTo [l1, l2, l3] [a, b, c] 3 = some (setL l3 (fldV l3 c.data.toList) (setL l2 (fldV l2 b.data.toList) (setL l1 (fldV l1 a.data.toList) ⟨0, 0, 0, 0⟩))) :=
  readTo_step (readTo_step (readTo_step rfl rfl rfl h1) rfl rfl h2) rfl rfl h3
theorem back2 {l1 l2 : UInt8} {a b : ByteArray} (h1 : fldK l1 a.data.toList = true) (h2 : fldK l2 b.data.toList = true) :
    readTo [l1, l2] [a, b] 2 = some (setL l2 (fldV l2 b.data.toList) (setL l1 (fldV l1 a.data.toList) ⟨0, 0, 0, 0⟩)) :=
  readTo_step (readTo_step rfl rfl rfl h1) rfl rfl h2

theorem fld_imm (t : List UInt8) : fldK 105 t = numK t ∧ fldV 105 t = numV t := ⟨rfl, rfl⟩
theorem and4 {a b c d : Bool} (h : (a && b && c && d) = true) : a = true ∧ b = true ∧ c = true ∧ d = true := by
  revert h
  cases a <;> cases b <;> cases c <;> cases d <;> simp
/-- What the program finds is what the model finds. -/
theorem agree_fwd (f : Int) (h0 : 1 ≤ f) (h9 : f ≤ 9) (w0 : ByteArray) (rest : List ByteArray) (hlen : rest.length = (letters f).length) (q : Q) (hq : readTo (letters f) rest (letters f).length = some q) (hr : rightF f q.rd q.r1 q.r2 q.im = true) :
    q = modQ f rest (numV (lastW w0 rest).data.toList) ∧ modK f (numK (lastW w0 rest).data.toList) = true ∧ fieldsL (letters f) q.rd q.r1 q.r2 q.im = lst rest := by
  rcases (show f = 1 ∨ f = 2 ∨ f = 3 ∨ f = 4 ∨ f = 5 ∨ f = 6 ∨ f = 7 ∨ f = 8 ∨ f = 9 by omega) with rfl | rfl | rfl | rfl | rfl | rfl | rfl | rfl | rfl
  all_goals simp only [letters] at hlen hq ⊢
  all_goals simp only [rightF] at hr
  case inl | inr.inl =>
    obtain ⟨a, b, rfl⟩ := two hlen
    obtain ⟨k1, k2, rfl⟩ := read2 hq
    obtain ⟨r1, r2, r3, r4⟩ := and4 hr
    have e1 := reg_fwd (by decide) k1 r1
    refine ⟨?_, k2, ?_⟩
    · simp only [modQ, rg, lastW, setL]
      simp [e1, fld_imm]
    · have f1 := fld_fwd k1
      have f2 := fld_fwd k2
      simpa [fieldsL, valL, setL, lst] using And.intro f1 f2
  case inr.inr.inl | inr.inr.inr.inr.inr.inl | inr.inr.inr.inr.inr.inr.inl =>
    obtain ⟨a, b, c, rfl⟩ := three hlen
    obtain ⟨k1, k2, k3, rfl⟩ := read3 hq
    obtain ⟨r1, r2, r3, r4⟩ := and4 hr
    have e1 := reg_fwd (by decide) k1 r1
    have e2 := reg_fwd (by decide) k2 r2
    refine ⟨?_, k3, ?_⟩
    · simp only [modQ, rg, lastW, setL]
      simp [e1, e2, fld_imm]
    · have f1 := fld_fwd k1
      have f2 := fld_fwd k2
      have f3 := fld_fwd k3
      simpa [fieldsL, valL, setL, lst] using And.intro f1 (And.intro f2 f3)
  case inr.inr.inr.inl =>
    obtain ⟨a, b, c, rfl⟩ := three hlen
    obtain ⟨k1, k2, k3, rfl⟩ := read3 hq
    obtain ⟨r1, r2, r3, r4⟩ := and4 hr
    have e1 := reg_fwd (by decide) k1 r2
    have e2 := reg_fwd (by decide) k2 r3
    refine ⟨?_, k3, ?_⟩
    · simp only [modQ, rg, lastW, setL]
      simp [e1, e2, fld_imm]
    · have f1 := fld_fwd k1
      have f2 := fld_fwd k2
      have f3 := fld_fwd k3
      simpa [fieldsL, valL, setL, lst] using And.intro f1 (And.intro f2 f3)
  case inr.inr.inr.inr.inl =>
    obtain ⟨a, b, c, rfl⟩ := three hlen
    obtain ⟨k1, k2, k3, rfl⟩ := read3 hq
    obtain ⟨r1, r2, r3, r4⟩ := and4 hr
    have e1 := reg_fwd (by decide) k1 r3
    have e2 := reg_fwd (by decide) k2 r2
    refine ⟨?_, k3, ?_⟩
    · simp only [modQ, rg, lastW, setL]
      simp [e1, e2, fld_imm]
    · have f1 := fld_fwd k1
      have f2 := fld_fwd k2
      have f3 := fld_fwd k3
      simpa [fieldsL, valL, setL, lst] using And.intro f1 (And.intro f2 f3)
  case inr.inr.inr.inr.inr.inr.inr.inl =>
    obtain ⟨a, b, c, rfl⟩ := three hlen
    obtain ⟨k1, k2, k3, rfl⟩ := read3 hq
    obtain ⟨r1, r2, r3, r4⟩ := and4 hr
    have e1 := reg_fwd (by decide) k1 r1
    have e2 := reg_fwd (by decide) k2 r2
    have e3 := reg_fwd (by decide) k3 r3
    refine ⟨?_, rfl, ?_⟩
    · simp only [modQ, rg, lastW, setL]
      simp [e1, e2, e3]
    · have f1 := fld_fwd k1
      have f2 := fld_fwd k2
      have f3 := fld_fwd k3
      simpa [fieldsL, valL, setL, lst] using And.intro f1 (And.intro f2 f3)
  case inr.inr.inr.inr.inr.inr.inr.inr =>
    have hlen : rest = [] := List.length_eq_zero_iff.1 hlen
    subst hlen
    injection hq with hq
    subst hq
    exact ⟨rfl, rfl, rfl⟩

theorem reg_bound {r : Int} (h : regB r = true) : -1000000000000000000 < r ∧ r < 1000000000000000000 := by
  have := regB_bd h
  omega
theorem lst3 {rest : List ByteArray} {x y z : List UInt8} (h : lst rest = [x, y, z]) : ∃ a b c, rest = [a, b, c] ∧ a.data.toList = x ∧ b.data.toList = y ∧ c.data.toList = z := by
  match rest, h with
  | [a, b, c], h => simp [lst] at h; exact ⟨a, b, c, rfl, h.1, h.2.1, h.2.2⟩
theorem lst2 {rest : List ByteArray} {x y : List UInt8} (h : lst rest = [x, y]) : ∃ a b, rest = [a, b] ∧ a.data.toList = x ∧ b.data.toList = y := by
  match rest, h with
  | [a, b], h => simp [lst] at h; exact ⟨a, b, rfl, h.1, h.2⟩
theorem back_at {l : UInt8} {t : List UInt8} {v : Int} (e : t = wordF l v) (h : -1000000000000000000 < v ∧ v < 1000000000000000000) : fldK l t = true ∧ fldV l t = v := by
  rw [e]
  exact fld_back l h.1 h.2
/-- The words that tell an instruction are read so. -/
theorem agree_words (f : Int) (h0 : 1 ≤ f) (h9 : f ≤ 9) (rest : List ByteArray) (rd r1 r2 im : Int) (hr : rightF f rd r1 r2 im = true) (him : -1000000000000000000 < im ∧ im < 1000000000000000000) (h : lst rest = fieldsL (letters f) rd r1 r2 im) :
    rest.length = (letters f).length ∧ readTo (letters f) rest (letters f).length = some ⟨rd, r1, r2, im⟩ := by
  refine ⟨by have := congrArg List.length h; simpa [lst, fieldsL] using this, ?_⟩
  rcases (show f = 1 ∨ f = 2 ∨ f = 3 ∨ f = 4 ∨ f = 5 ∨ f = 6 ∨ f = 7 ∨ f = 8 ∨ f = 9 by omega) with rfl | rfl | rfl | rfl | rfl | rfl | rfl | rfl | rfl
  all_goals simp only [letters] at h ⊢
  all_goals simp only [rightF] at hr
  all_goals simp [fieldsL, valL] at h
  case inl | inr.inl =>
    obtain ⟨a, b, rfl, e1, e2⟩ := lst2 h
    obtain ⟨g1, g2, g3, g4⟩ := and4 hr
    obtain ⟨k1, v1⟩ := back_at e1 (reg_bound g1)
    obtain ⟨k2, v2⟩ := back_at e2 him
    refine (back2 k1 k2).trans ?_
    rw [v1, v2]
    simp at g2 g3
    subst g2; subst g3
    rfl
  case inr.inr.inl | inr.inr.inr.inr.inr.inl | inr.inr.inr.inr.inr.inr.inl =>
    obtain ⟨a, b, c, rfl, e1, e2, e3⟩ := lst3 h
    obtain ⟨g1, g2, g3, g4⟩ := and4 hr
    obtain ⟨k1, v1⟩ := back_at e1 (reg_bound g1)
    obtain ⟨k2, v2⟩ := back_at e2 (reg_bound g2)
    obtain ⟨k3, v3⟩ := back_at e3 him
    refine (back3 k1 k2 k3).trans ?_
    rw [v1, v2, v3]
    simp at g3
    subst g3
    rfl
  case inr.inr.inr.inl =>
    obtain ⟨a, b, c, rfl, e1, e2, e3⟩ := lst3 h
    obtain ⟨g1, g2, g3, g4⟩ := and4 hr
    obtain ⟨k1, v1⟩ := back_at e1 (reg_bound g2)
    obtain ⟨k2, v2⟩ := back_at e2 (reg_bound g3)
    obtain ⟨k3, v3⟩ := back_at e3 him
    refine (back3 k1 k2 k3).trans ?_
    rw [v1, v2, v3]
    simp at g1
    subst g1
    rfl
  case inr.inr.inr.inr.inl =>
    obtain ⟨a, b, c, rfl, e1, e2, e3⟩ := lst3 h
    obtain ⟨g1, g2, g3, g4⟩ := and4 hr
    obtain ⟨k1, v1⟩ := back_at e1 (reg_bound g3)
    obtain ⟨k2, v2⟩ := back_at e2 (reg_bound g2)
    obtain ⟨k3, v3⟩ := back_at e3 him
    refine (back3 k1 k2 k3).trans ?_
    rw [v1, v2, v3]
    simp at g1
    subst g1
    rfl
  case inr.inr.inr.inr.inr.inr.inr.inl =>
    obtain ⟨a, b, c, rfl, e1, e2, e3⟩ := lst3 h
    obtain ⟨g1, g2, g3, g4⟩ := and4 hr
    obtain ⟨k1, v1⟩ := back_at e1 (reg_bound g1)
    obtain ⟨k2, v2⟩ := back_at e2 (reg_bound g2)
    obtain ⟨k3, v3⟩ := back_at e3 (reg_bound g3)
    refine (back3 k1 k2 k3).trans ?_
    rw [v1, v2, v3]
    simp at g4
    subst g4
    rfl
  case inr.inr.inr.inr.inr.inr.inr.inr =>
    obtain ⟨g1, g2, g3, g4⟩ := and4 hr
    simp at g1 g2 g3 g4
    subst g1; subst g2; subst g3; subst g4
    rfl

theorem lastT_is (s : ByteArray) (k : Nat) (hk : 1 ≤ k) : ∀ n, Op.lastT s n = k → (Op.wordAt k).data.toList = s.data.toList
  | 0, h => by
    have : Op.lastT s 0 = 0 := rfl
    omega
  | n + 1, h => by
    rw [Op.lastT] at h
    split at h
    · rename_i e
      rw [← h]
      exact e
    · exact lastT_is s k hk n h
theorem ba_ext {s t : ByteArray} (h : s.data.toList = t.data.toList) : s = t := ByteArray.ext (Array.toList_inj.1 h)
theorem lst_txt (ls : List (List UInt8)) (rest : List ByteArray) : ls.map txt = rest ↔ ls = lst rest := by
  constructor
  · rintro rfl
    simp [lst, txt_list, Function.comp_def]
  · rintro rfl
    unfold lst
    rw [List.map_map]
    conv => rhs; rw [← List.map_id rest]
    apply List.map_congr_left
    intro x _
    exact txt_self x
theorem modV_bd (f : Int) (rest : List ByteArray) (N : List UInt8) (hk : modK f (numK N) = true) : -1000000000000000000 < (modQ f rest (numV N)).im ∧ (modQ f rest (numV N)).im < 1000000000000000000 := by
  unfold modK at hk
  unfold modQ
  by_cases h : f = 8 ∨ f = 9
  · rcases h with rfl | rfl <;> simp
  · rw [if_neg h] at hk
    have := num_atoi (numK_some hk)
    repeat' split
    all_goals exact ⟨by first | exact this.2.2.1 | exact (by decide : (-1000000000000000000 : Int) < 0), by first | exact this.2.2.2 | exact (by decide : (0 : Int) < 1000000000000000000)⟩
/-- What the model holds for right. -/
def okM (K : Nat) (w0 : ByteArray) (rest : List ByteArray) : Bool :=
  modK (shT (K : Int)).1 (numK (lastW w0 rest).data.toList) && rightB K (modQ (shT (K : Int)).1 rest (numV (lastW w0 rest).data.toList)).rd (modQ (shT (K : Int)).1 rest (numV (lastW w0 rest).data.toList)).r1 (modQ (shT (K : Int)).1 rest (numV (lastW w0 rest).data.toList)).r2 (modQ (shT (K : Int)).1 rest (numV (lastW w0 rest).data.toList)).im
    && decide (wordsB (txt (textB K (modQ (shT (K : Int)).1 rest (numV (lastW w0 rest).data.toList)).rd (modQ (shT (K : Int)).1 rest (numV (lastW w0 rest).data.toList)).r1 (modQ (shT (K : Int)).1 rest (numV (lastW w0 rest).data.toList)).r2 (modQ (shT (K : Int)).1 rest (numV (lastW w0 rest).data.toList)).im)) = w0 :: rest)
theorem rightB_F {K : Nat} {rd r1 r2 im : Int} (h : rightB K rd r1 r2 im = true) : rightF (shT (K : Int)).1 rd r1 r2 im = true := by
  unfold rightB at h
  exact (Bool.and_eq_true_iff.1 h).2
/-- Both agree. -/
theorem agree (K : Nat) (hK1 : 1 ≤ K) (hK64 : K ≤ 64) (w0 : ByteArray) (rest : List ByteArray) (hK : Op.lastT w0 64 = K) :
    (∀ q, rest.length = (letters (shT (K : Int)).1).length → readTo (letters (shT (K : Int)).1) rest (letters (shT (K : Int)).1).length = some q → rightB K q.rd q.r1 q.r2 q.im = true → okM K w0 rest = true ∧ q = modQ (shT (K : Int)).1 rest (numV (lastW w0 rest).data.toList)) ∧
    (okM K w0 rest = true → rest.length = (letters (shT (K : Int)).1).length ∧ readTo (letters (shT (K : Int)).1) rest (letters (shT (K : Int)).1).length = some (modQ (shT (K : Int)).1 rest (numV (lastW w0 rest).data.toList)) ∧
      rightB K (modQ (shT (K : Int)).1 rest (numV (lastW w0 rest).data.toList)).rd (modQ (shT (K : Int)).1 rest (numV (lastW w0 rest).data.toList)).r1 (modQ (shT (K : Int)).1 rest (numV (lastW w0 rest).data.toList)).r2 (modQ (shT (K : Int)).1 rest (numV (lastW w0 rest).data.toList)).im = true) := by
  have hf := shT_form (K : Int) (by omega) (by omega)
  have hname : txt (Op.words.getD K []) = w0 := by
    have := lastT_is w0 K hK1 64 hK
    exact ba_ext this
  constructor
  · intro q hlen hq hr
    obtain ⟨rfl, e2, e3⟩ := agree_fwd _ hf.1 hf.2 w0 rest hlen q hq (rightB_F hr)
    refine ⟨?_, rfl⟩
    unfold okM
    rw [e2, hr, text_words K hK1 hK64, hname]
    simp only [Bool.and_self, Bool.true_and, decide_eq_true_eq]
    rw [(lst_txt _ _).2 e3]
  · intro h
    unfold okM at h
    obtain ⟨h1, h2⟩ := Bool.and_eq_true_iff.1 h
    obtain ⟨h3, h4⟩ := Bool.and_eq_true_iff.1 h1
    have h2 := of_decide_eq_true h2
    rw [text_words K hK1 hK64] at h2
    injection h2 with _ h2
    have h5 := (lst_txt _ _).1 h2
    have := agree_words _ hf.1 hf.2 rest _ _ _ _ (rightB_F h4) (modV_bd _ rest _ h3) h5.symm
    exact ⟨this.1, this.2, h4⟩
end Go.Proofs.YtdbngfeelfgbeaaGreatDoor.Tx

namespace Go.Proofs.YtdbngfeelfgbeaaGreatDoor

/-- The fixed bits of a shape. -/
def fixW (f c g h : Int) : Int := if f = 6 then c + g * 4096 + h / 2 * 67108864 else if f = 9 then c + g * 4096 + h * 1048576 else c + g * 4096 + h * 33554432
/-- An instruction's word. -/
def encW (f c g h rd r1 r2 im : Int) : Int := fixW f c g h + rd * 128 + r1 * 32768 + r2 * 1048576 + layF f im

theorem regs_or (rd r1 r2 : Int) (a0 : 0 ≤ rd) (a1 : rd ≤ 31) (b0 : 0 ≤ r1) (b1 : r1 ≤ 31) (c0 : 0 ≤ r2) (c1 : r2 ≤ 31) :
    bits .or .i64 (bits .or .i64 (rd * 128) (r1 * 32768)) (r2 * 1048576) = rd * 128 + r1 * 32768 + r2 * 1048576 := by
  rw [i64_or_gap 15 5 32768 1048576 (by decide) (by decide) (rd * 128) (r1 * 32768) (by omega) (by omega) (by omega) (by omega) (by omega) (by omega) (by decide)]
  rw [i64_or_gap 20 5 1048576 33554432 (by decide) (by decide) (rd * 128 + r1 * 32768) (r2 * 1048576) (by omega) (by omega) (by omega) (by omega) (by omega) (by omega) (by decide)]

theorem or_assoc_i (x y z : Int) (x0 : 0 ≤ x) (x1 : x < 4294967296) (y0 : 0 ≤ y) (y1 : y < 4294967296) (z0 : 0 ≤ z) (z1 : z < 4294967296) :
    bits .or .i64 x (bits .or .i64 y z) = bits .or .i64 (bits .or .i64 x y) z := by
  obtain ⟨x, rfl⟩ := Int.eq_ofNat_of_zero_le x0
  obtain ⟨y, rfl⟩ := Int.eq_ofNat_of_zero_le y0
  obtain ⟨z, rfl⟩ := Int.eq_ofNat_of_zero_le z0
  have h1 : x ||| y < 2 ^ 32 := Nat.or_lt_two_pow (by omega) (by omega)
  have h2 : y ||| z < 2 ^ 32 := Nat.or_lt_two_pow (by omega) (by omega)
  rw [i64_or_nat y z (by omega) (by omega), i64_or_nat x y (by omega) (by omega), i64_or_nat x (y ||| z) (by omega) (by omega), i64_or_nat (x ||| y) z (by omega) (by omega), Nat.or_assoc]

/-- Fixed bits (none of 7 to 11, 15 to 24) and the registers. -/
theorem fix_regs (c g H rd r1 r2 : Int) (k0 : 0 ≤ c) (k1 : c < 128) (g0 : 0 ≤ g) (g1 : g < 8) (h0 : 0 ≤ H) (h1 : H < 128) (a0 : 0 ≤ rd) (a1 : rd ≤ 31) (b0 : 0 ≤ r1) (b1 : r1 ≤ 31) (c0 : 0 ≤ r2) (c1 : r2 ≤ 31) :
    bits .or .i64 (c + g * 4096 + H * 33554432) (rd * 128 + r1 * 32768 + r2 * 1048576) = c + g * 4096 + H * 33554432 + rd * 128 + r1 * 32768 + r2 * 1048576 := by
  rw [← i64_or_gap 20 5 1048576 33554432 (by decide) (by decide) (rd * 128 + r1 * 32768) (r2 * 1048576) (by omega) (by omega) (by omega) (by omega) (by omega) (by omega) (by decide)]
  rw [or_assoc_i _ _ _ (by omega) (by omega) (by omega) (by omega) (by omega) (by omega)]
  rw [← i64_or_gap 15 5 32768 1048576 (by decide) (by decide) (rd * 128) (r1 * 32768) (by omega) (by omega) (by omega) (by omega) (by omega) (by omega) (by decide)]
  rw [or_assoc_i _ _ _ (by omega) (by omega) (by omega) (by omega) (by omega) (by omega)]
  rw [i64_or_gap 7 5 128 4096 (by decide) (by decide) (c + g * 4096 + H * 33554432) (rd * 128) (by omega) (by omega) (by omega) (by omega) (by omega) (by omega) (by decide)]
  rw [i64_or_gap 15 5 32768 1048576 (by decide) (by decide) (c + g * 4096 + H * 33554432 + rd * 128) (r1 * 32768) (by omega) (by omega) (by omega) (by omega) (by omega) (by omega) (by decide)]
  rw [i64_or_gap 20 5 1048576 33554432 (by decide) (by decide) (c + g * 4096 + H * 33554432 + rd * 128 + r1 * 32768) (r2 * 1048576) (by omega) (by omega) (by omega) (by omega) (by omega) (by omega) (by decide)]

/-- What a shape's numbers keep to. -/
def shOK (f c g h : Int) : Bool := decide (1 ≤ f) && decide (f ≤ 9) && decide (0 ≤ c) && decide (c < 128) && decide (0 ≤ g) && decide (g < 8) && decide (0 ≤ h) && decide (h < 64) &&
  (decide (f ≠ 1) || (decide (g = 0) && decide (h = 0))) && (decide (f ≠ 2) || (decide (g = 0) && decide (h = 0))) && (decide (f ≠ 3) || decide (h = 0)) && (decide (f ≠ 4) || decide (h = 0)) && (decide (f ≠ 5) || decide (h = 0)) && (decide (f ≠ 9) || decide (g = 0))

theorem lay_or (f c g h rd r1 r2 im : Int) (hs : shOK f c g h = true) (a0 : 0 ≤ rd) (a1 : rd ≤ 31) (b0 : 0 ≤ r1) (b1 : r1 ≤ 31) (c0 : 0 ≤ r2) (c1 : r2 ≤ 31)
    (hrd : f = 4 ∨ f = 5 ∨ f = 9 → rd = 0) (hr1 : f = 1 ∨ f = 2 ∨ f = 9 → r1 = 0) (hr2 : ¬ (f = 4 ∨ f = 5 ∨ f = 8) → r2 = 0) :
    bits .or .i64 (bits .or .i64 (fixW f c g h) (rd * 128 + r1 * 32768 + r2 * 1048576)) (layF f im) = encW f c g h rd r1 r2 im := by
  simp only [shOK, Bool.and_eq_true, Bool.or_eq_true, decide_eq_true_eq] at hs
  obtain ⟨⟨⟨⟨⟨⟨⟨⟨⟨⟨⟨⟨⟨f0, f1⟩, k0⟩, k1⟩, g0⟩, g1⟩, h0⟩, h1⟩, s1⟩, s2⟩, s3⟩, s4⟩, s5⟩, s9⟩ := hs
  unfold encW
  rcases (show f = 1 ∨ f = 2 ∨ f = 3 ∨ f = 4 ∨ f = 5 ∨ f = 6 ∨ f = 7 ∨ f = 8 ∨ f = 9 by omega) with rfl | rfl | rfl | rfl | rfl | rfl | rfl | rfl | rfl
  · have e : fixW 1 c g h = c + g * 4096 + h * 33554432 := rfl
    have l : layF 1 im = im / 4096 % 1048576 * 4096 := rfl
    rw [e, l, fix_regs c g h rd r1 r2 k0 k1 g0 g1 h0 (by omega) a0 a1 b0 b1 c0 c1]
    have p : 0 ≤ im / 4096 % 1048576 ∧ im / 4096 % 1048576 < 1048576 := by omega
    generalize im / 4096 % 1048576 = x at *
    exact i64_or_gap 12 20 4096 4294967296 (by decide) (by decide) _ _ (by omega) (by omega) (by omega) (by omega) (by omega) (by omega) (by decide)
  · have e : fixW 2 c g h = c + g * 4096 + h * 33554432 := rfl
    have l : layF 2 im = im / 4096 % 256 * 4096 + im / 2048 % 2 * 1048576 + im / 2 % 1024 * 2097152 + im / 1048576 % 2 * 2147483648 := rfl
    rw [e, l, fix_regs c g h rd r1 r2 k0 k1 g0 g1 h0 (by omega) a0 a1 b0 b1 c0 c1]
    have p : 0 ≤ im / 4096 % 256 ∧ im / 4096 % 256 < 256 := by omega
    have q : 0 ≤ im / 2048 % 2 ∧ im / 2048 % 2 < 2 := by omega
    have r : 0 ≤ im / 2 % 1024 ∧ im / 2 % 1024 < 1024 := by omega
    have s : 0 ≤ im / 1048576 % 2 ∧ im / 1048576 % 2 < 2 := by omega
    generalize im / 4096 % 256 = x at *
    generalize im / 2048 % 2 = y at *
    generalize im / 2 % 1024 = z at *
    generalize im / 1048576 % 2 = u at *
    exact i64_or_gap 12 20 4096 4294967296 (by decide) (by decide) _ _ (by omega) (by omega) (by omega) (by omega) (by omega) (by omega) (by decide)
  · have e : fixW 3 c g h = c + g * 4096 + h * 33554432 := rfl
    have l : layF 3 im = im % 4096 * 1048576 := rfl
    rw [e, l, fix_regs c g h rd r1 r2 k0 k1 g0 g1 h0 (by omega) a0 a1 b0 b1 c0 c1]
    have p : 0 ≤ im % 4096 ∧ im % 4096 < 4096 := by omega
    generalize im % 4096 = x at *
    exact i64_or_gap 20 12 1048576 4294967296 (by decide) (by decide) _ _ (by omega) (by omega) (by omega) (by omega) (by omega) (by omega) (by decide)
  · have e : fixW 4 c g h = c + g * 4096 + h * 33554432 := rfl
    have l : layF 4 im = (im / 2048 % 2 * 128 + im / 2 % 16 * 256) + (im / 32 % 64 * 33554432 + im / 4096 % 2 * 2147483648) := by
      show im / 2048 % 2 * 128 + im / 2 % 16 * 256 + im / 32 % 64 * 33554432 + im / 4096 % 2 * 2147483648 = _
      omega
    rw [e, l, fix_regs c g h rd r1 r2 k0 k1 g0 g1 h0 (by omega) a0 a1 b0 b1 c0 c1]
    have p : 0 ≤ im / 2048 % 2 * 128 + im / 2 % 16 * 256 ∧ im / 2048 % 2 * 128 + im / 2 % 16 * 256 < 4096 ∧ (im / 2048 % 2 * 128 + im / 2 % 16 * 256) % 128 = 0 := by omega
    have q : 0 ≤ im / 32 % 64 * 33554432 + im / 4096 % 2 * 2147483648 ∧ im / 32 % 64 * 33554432 + im / 4096 % 2 * 2147483648 < 4294967296 ∧ (im / 32 % 64 * 33554432 + im / 4096 % 2 * 2147483648) % 33554432 = 0 := by omega
    generalize im / 2048 % 2 * 128 + im / 2 % 16 * 256 = x at *
    generalize im / 32 % 64 * 33554432 + im / 4096 % 2 * 2147483648 = y at *
    obtain ⟨p0, p1, p2⟩ := p
    obtain ⟨q0, q1, q2⟩ := q
    have hrd0 := hrd (by omega)
    have hh := s4.resolve_left (by omega)
    rw [← i64_or_gap 25 7 33554432 4294967296 (by decide) (by decide) x y (by omega) (by omega) (by omega) (by omega) (by omega) (by omega) (by decide)]
    rw [or_assoc_i _ _ _ (by omega) (by omega) (by omega) (by omega) (by omega) (by omega)]
    rw [i64_or_gap 7 5 128 4096 (by decide) (by decide) _ x (by omega) (by omega) (by omega) (by omega) (by omega) (by omega) (by decide)]
    rw [i64_or_gap 25 7 33554432 4294967296 (by decide) (by decide) _ y (by omega) (by omega) (by omega) (by omega) (by omega) (by omega) (by decide)]
    rw [i64_or_gap 25 7 33554432 4294967296 (by decide) (by decide) x y (by omega) (by omega) (by omega) (by omega) (by omega) (by omega) (by decide)]
    omega
  · have e : fixW 5 c g h = c + g * 4096 + h * 33554432 := rfl
    have l : layF 5 im = im % 32 * 128 + im / 32 % 128 * 33554432 := rfl
    rw [e, l, fix_regs c g h rd r1 r2 k0 k1 g0 g1 h0 (by omega) a0 a1 b0 b1 c0 c1]
    have p : 0 ≤ im % 32 ∧ im % 32 < 32 := by omega
    have q : 0 ≤ im / 32 % 128 ∧ im / 32 % 128 < 128 := by omega
    generalize im % 32 = x at *
    generalize im / 32 % 128 = y at *
    have hrd0 := hrd (by omega)
    have hh := s5.resolve_left (by omega)
    rw [← i64_or_gap 25 7 33554432 4294967296 (by decide) (by decide) (x * 128) (y * 33554432) (by omega) (by omega) (by omega) (by omega) (by omega) (by omega) (by decide)]
    rw [or_assoc_i _ _ _ (by omega) (by omega) (by omega) (by omega) (by omega) (by omega)]
    rw [i64_or_gap 7 5 128 4096 (by decide) (by decide) _ (x * 128) (by omega) (by omega) (by omega) (by omega) (by omega) (by omega) (by decide)]
    rw [i64_or_gap 25 7 33554432 4294967296 (by decide) (by decide) _ (y * 33554432) (by omega) (by omega) (by omega) (by omega) (by omega) (by omega) (by decide)]
    rw [i64_or_gap 25 7 33554432 4294967296 (by decide) (by decide) (x * 128) (y * 33554432) (by omega) (by omega) (by omega) (by omega) (by omega) (by omega) (by decide)]
    omega
  · have e : fixW 6 c g h = c + g * 4096 + (h / 2 * 2) * 33554432 := by
      show c + g * 4096 + h / 2 * 67108864 = _
      omega
    have l : layF 6 im = im % 64 * 1048576 := rfl
    rw [e, l, fix_regs c g (h / 2 * 2) rd r1 r2 k0 k1 g0 g1 (by omega) (by omega) a0 a1 b0 b1 c0 c1]
    have p : 0 ≤ im % 64 ∧ im % 64 < 64 := by omega
    generalize im % 64 = x at *
    have q : 0 ≤ h / 2 ∧ h / 2 < 32 := by omega
    generalize h / 2 = y at *
    exact i64_or_gap 20 6 1048576 67108864 (by decide) (by decide) _ _ (by omega) (by omega) (by omega) (by omega) (by omega) (by omega) (by decide)
  · have e : fixW 7 c g h = c + g * 4096 + h * 33554432 := rfl
    have l : layF 7 im = im % 32 * 1048576 := rfl
    rw [e, l, fix_regs c g h rd r1 r2 k0 k1 g0 g1 h0 (by omega) a0 a1 b0 b1 c0 c1]
    have p : 0 ≤ im % 32 ∧ im % 32 < 32 := by omega
    generalize im % 32 = x at *
    exact i64_or_gap 20 5 1048576 33554432 (by decide) (by decide) _ _ (by omega) (by omega) (by omega) (by omega) (by omega) (by omega) (by decide)
  · have e : fixW 8 c g h = c + g * 4096 + h * 33554432 := rfl
    have l : layF 8 im = 0 := rfl
    rw [e, l, fix_regs c g h rd r1 r2 k0 k1 g0 g1 h0 (by omega) a0 a1 b0 b1 c0 c1, or_z _ (by omega) (by omega)]
    omega
  · have e : fixW 9 c g h = c + g * 4096 + h * 1048576 := rfl
    have l : layF 9 im = 0 := rfl
    have z0 := hrd (by omega)
    have z1 := hr1 (by omega)
    have z2 := hr2 (by omega)
    subst z0 z1 z2
    rw [e, l, show (0 : Int) * 128 + 0 * 32768 + 0 * 1048576 = 0 by decide, or_z (c + g * 4096 + h * 1048576) (by omega) (by omega), or_z (c + g * 4096 + h * 1048576) (by omega) (by omega)]
    omega
end Go.Proofs.YtdbngfeelfgbeaaGreatDoor

namespace Go.Proofs.YtdbngfeelfgbeaaGreatDoor
open Go.RowKit
set_option linter.unusedVariables false

theorem shT_ok (op : Int) (h0 : 1 ≤ op) (h1 : op ≤ 64) : shOK (shT op).1 (shT op).2.1 (shT op).2.2.1 (shT op).2.2.2 = true := by
  obtain ⟨k, rfl⟩ := Int.eq_ofNat_of_zero_le (show 0 ≤ op by omega)
  have hk : k < 65 := by omega
  have hk0 : 1 ≤ k := by omega
  have key : ∀ j : Nat, j < 65 → 1 ≤ j → shOK (shT (j : Int)).1 (shT (j : Int)).2.1 (shT (j : Int)).2.2.1 (shT (j : Int)).2.2.2 = true := by decide +kernel
  exact key k hk hk0

theorem sh_bounds {f c g h : Int} (hs : shOK f c g h = true) : 1 ≤ f ∧ f ≤ 9 ∧ 0 ≤ c ∧ c < 128 ∧ 0 ≤ g ∧ g < 8 ∧ 0 ≤ h ∧ h < 64 := by
  simp only [shOK, Bool.and_eq_true, Bool.or_eq_true, decide_eq_true_eq] at hs
  obtain ⟨⟨⟨⟨⟨⟨⟨⟨⟨⟨⟨⟨⟨f0, f1⟩, k0⟩, k1⟩, g0⟩, g1⟩, h0⟩, h1⟩, s1⟩, s2⟩, s3⟩, s4⟩, s5⟩, s9⟩ := hs
  exact ⟨f0, f1, k0, k1, g0, g1, h0, h1⟩

theorem cg_or (c g : Int) (k0 : 0 ≤ c) (k1 : c < 128) (g0 : 0 ≤ g) (g1 : g < 8) : bits .or .i64 c (g * 4096) = c + g * 4096 :=
  i64_or_gap 12 3 4096 32768 (by decide) (by decide) _ _ (by omega) (by omega) (by omega) (by omega) (by omega) (by omega) (by decide)

set_option maxHeartbeats 1000000 in
theorem fixC (f c g h : Int) (w : World) (f0 : 1 ≤ f) (f1 : f ≤ 9) (k0 : 0 ≤ c) (k1 : c < 128) (g0 : 0 ≤ g) (g1 : g < 8) (h0 : 0 ≤ h) (h1 : h < 64) :
    Calls Tryz.prog 29 #[.agg #[.int .i64 f, .int .i64 c, .int .i64 g, .int .i64 h]] w fun e w' => e = .returned (.int .i64 (fixW f c g h)) ∧ Below w.heap.size w w' := by
  have hcg := cg_or c g k0 k1 g0 g1
  by_cases e6 : f = 6
  · subst e6
    have e : Hid (bits .or .i64 (c + g * 4096) (h / 2 * 67108864) = fixW 6 c g h) :=
      i64_or_gap 26 6 67108864 4294967296 (by decide) (by decide) _ _ (by omega) (by omega) (by omega) (by omega) (by omega) (by omega) (by decide)
    go_enter Tryz.func29, Tryz.ntmps29
    go_wp2
    go_ret
    exact ⟨congrArg (fun x => Ending.returned (.int .i64 x)) e.out, (Below.refl _ _).alloc (Nat.le_refl _) _⟩
  by_cases e9 : f = 9
  · subst e9
    have e : Hid (bits .or .i64 (c + g * 4096) (h * 1048576) = fixW 9 c g h) :=
      i64_or_gap 20 6 1048576 67108864 (by decide) (by decide) _ _ (by omega) (by omega) (by omega) (by omega) (by omega) (by omega) (by decide)
    clear e6
    go_enter Tryz.func29, Tryz.ntmps29
    go_wp2
    go_ret
    exact ⟨congrArg (fun x => Ending.returned (.int .i64 x)) e.out, (Below.refl _ _).alloc (Nat.le_refl _) _⟩
  · have ef : fixW f c g h = c + g * 4096 + h * 33554432 := by
      unfold fixW
      rw [if_neg e6, if_neg e9]
    have e : Hid (bits .or .i64 (c + g * 4096) (h * 33554432) = fixW f c g h) := by
      rw [ef]
      exact i64_or_gap 25 7 33554432 4294967296 (by decide) (by decide) _ _ (by omega) (by omega) (by omega) (by omega) (by omega) (by omega) (by decide)
    clear ef
    have n6 : (f == 6) = false := by simpa using e6
    have n9 : (f == 9) = false := by simpa using e9
    clear e6 e9
    go_enter Tryz.func29, Tryz.ntmps29
    go_wp2
    go_ret
    exact ⟨congrArg (fun x => Ending.returned (.int .i64 x)) e.out, (Below.refl _ _).alloc (Nat.le_refl _) _⟩
end Go.Proofs.YtdbngfeelfgbeaaGreatDoor

namespace Go.Proofs.YtdbngfeelfgbeaaGreatDoor
open Go.RowKit
set_option linter.unusedVariables false

theorem right_parts {f rd r1 r2 im : Int} (h0 : 1 ≤ f) (h1 : f ≤ 9) (h : rightF f rd r1 r2 im = true) :
    (regB rd = true ∧ regB r1 = true ∧ regB r2 = true) ∧ (f = 4 ∨ f = 5 ∨ f = 9 → rd = 0) ∧ (f = 1 ∨ f = 2 ∨ f = 9 → r1 = 0) ∧ (¬ (f = 4 ∨ f = 5 ∨ f = 8) → r2 = 0) := by
  have hz : ∀ r : Int, (r == 0) = true → regB r = true ∧ r = 0 := fun r e => by
    have := eq_of_beq e
    subst this
    exact ⟨rfl, rfl⟩
  rcases (show f = 1 ∨ f = 2 ∨ f = 3 ∨ f = 4 ∨ f = 5 ∨ f = 6 ∨ f = 7 ∨ f = 8 ∨ f = 9 by omega) with rfl | rfl | rfl | rfl | rfl | rfl | rfl | rfl | rfl
  all_goals
    simp [rightF] at h
    simp
    try omega
  all_goals simp_all [regB]

/-- The rule of a form, and what it lays. -/
theorem rule_lay (f im : Int) (h0 : 1 ≤ f) (h1 : f ≤ 9) : ∃ R : Value, (∀ w, Calls Tryz.prog 30 #[.int .i64 f] w fun e w' => e = .returned R ∧ Below w.heap.size w w') ∧
    (∀ w, Calls Tryz.prog 31 #[R, .int .i64 im] w fun e w' => e = .returned (.int .i64 (layF f im)) ∧ Below w.heap.size w w') := by
  rcases (show f = 1 ∨ f = 2 ∨ f = 3 ∨ f = 4 ∨ f = 5 ∨ f = 6 ∨ f = 7 ∨ f = 8 ∨ f = 9 by omega) with rfl | rfl | rfl | rfl | rfl | rfl | rfl | rfl | rfl
  · exact ⟨rule1, fun w => rule_1 w, fun w => lay1 im w⟩
  · exact ⟨rule2, fun w => rule_2 w, fun w => lay2 im w⟩
  · exact ⟨rule3, fun w => rule_3 w, fun w => lay3 im w⟩
  · exact ⟨rule4, fun w => rule_4 w, fun w => lay4 im w⟩
  · exact ⟨rule5, fun w => rule_5 w, fun w => lay5 im w⟩
  · exact ⟨rule6, fun w => rule_6 w, fun w => lay6 im w⟩
  · exact ⟨rule7, fun w => rule_7 w, fun w => lay7 im w⟩
  · exact ⟨rule8, fun w => rule_none 8 (.inl rfl) w, fun w => lay8 im w⟩
  · exact ⟨rule8, fun w => rule_none 9 (.inr (.inl rfl)) w, fun w => lay8 im w⟩

theorem shapeCs (op f c g h : Int) (w : World) (hs : shT op = (f, c, g, h)) :
    Calls Tryz.prog 17 #[.int .i64 op] w fun e w' => e = .returned (.agg #[.int .i64 f, .int .i64 c, .int .i64 g, .int .i64 h]) ∧ Below w.heap.size w w' := by
  have := shapeC op w
  rw [hs] at this
  exact this

theorem encNo (op rd r1 r2 im : Int) (w : World) (hl : Laid w) (hr : rightB op rd r1 r2 im = false) :
    Calls Tryz.prog 10 #[.agg #[.int .i64 op, .int .i64 rd, .int .i64 r1, .int .i64 r2, .int .i64 im]] w fun e w' => e = .returned (.tuple #[.int .i64 0, .int .i64 1]) ∧ Below w.heap.size w w' := by
  go_enter Tryz.func10, Tryz.ntmps10
  go_wp2_with fail
  refine (insC op rd r1 r2 im _ (laid_below hl ((Below.refl _ _).alloc (Nat.le_refl _) _))).mono ?_
  rintro e w1 ⟨rfl, hb1⟩
  have HB1 : Hid (Below w.heap.size w w1) := ((Below.refl _ _).alloc (Nat.le_refl _) _).trans (hb1.mono (by simp))
  clear hb1 hl
  go_wp2
  go_ret2
  exact ⟨rfl, HB1.out⟩

set_option maxRecDepth 100000 in
set_option maxHeartbeats 8000000 in
theorem encYes (op rd r1 r2 im f c g h : Int) (w : World) (hl : Laid w) (hr : rightB op rd r1 r2 im = true) (hs : Hid (shT op = (f, c, g, h))) :
    Calls Tryz.prog 10 #[.agg #[.int .i64 op, .int .i64 rd, .int .i64 r1, .int .i64 r2, .int .i64 im]] w fun e w' => e = .returned (.tuple #[.int .i64 (encW f c g h rd r1 r2 im), .int .i64 0]) ∧ Below w.heap.size w w' := by
  have hop : 1 ≤ op ∧ op ≤ 64 := by
    unfold rightB at hr
    exact of_decide_eq_true (Bool.and_eq_true_iff.1 hr).1
  have hf : rightF f rd r1 r2 im = true := by
    unfold rightB at hr
    have := (Bool.and_eq_true_iff.1 hr).2
    rw [hs.out] at this
    exact this
  have hok : shOK f c g h = true := by
    have := shT_ok op hop.1 hop.2
    rw [hs.out] at this
    exact this
  obtain ⟨f0, f1, k0, k1, g0, g1, h0, h1⟩ := sh_bounds hok
  obtain ⟨⟨b1, b2, b3⟩, z1, z2, z3⟩ := right_parts f0 f1 hf
  obtain ⟨rd0, rd1⟩ := regB_bd b1
  obtain ⟨r10, r11⟩ := regB_bd b2
  obtain ⟨r20, r21⟩ := regB_bd b3
  have HE : Hid (bits .or .i64 (bits .or .i64 (fixW f c g h) (rd * 128 + r1 * 32768 + r2 * 1048576)) (layF f im) = encW f c g h rd r1 r2 im) := lay_or f c g h rd r1 r2 im hok rd0 rd1 r10 r11 r20 r21 z1 z2 z3
  have hregs := regs_or rd r1 r2 rd0 rd1 r10 r11 r20 r21
  obtain ⟨R, hR, hLy⟩ := rule_lay f im f0 f1
  have HR : Hid (∀ w, Calls Tryz.prog 30 #[.int .i64 f] w fun e w' => e = .returned R ∧ Below w.heap.size w w') := hR
  have HLy : Hid (∀ w, Calls Tryz.prog 31 #[R, .int .i64 im] w fun e w' => e = .returned (.int .i64 (layF f im)) ∧ Below w.heap.size w w') := hLy
  have HF : Hid (∀ w, Calls Tryz.prog 29 #[.agg #[.int .i64 f, .int .i64 c, .int .i64 g, .int .i64 h]] w fun e w' => e = .returned (.int .i64 (fixW f c g h)) ∧ Below w.heap.size w w') := fun w => fixC f c g h w f0 f1 k0 k1 g0 g1 h0 h1
  clear hR hLy hf hok b1 b2 b3 z1 z2 z3 hop
  go_enter Tryz.func10, Tryz.ntmps10
  go_wp2_with fail
  refine (insC op rd r1 r2 im _ (laid_below hl ((Below.refl _ _).alloc (Nat.le_refl _) _))).mono ?_
  rintro e w1 ⟨rfl, hb1⟩
  obtain ⟨hc1, hf1⟩ := bcell hb1
  have hz1 : w.heap.size < w1.heap.size := by have := hb1.size; simp at this; omega
  have HB1 : Below w.heap.size w w1 := ((Below.refl _ _).alloc (Nat.le_refl _) _).trans (hb1.mono (by simp))
  clear hb1 hl
  go_wp2_with fail
  refine (shapeCs op f c g h _ hs.out).mono ?_
  rintro e w2 ⟨rfl, hb2⟩
  obtain ⟨hc2, hf2⟩ := bcell hb2
  have hz2 := hb2.size
  have HB2 : Below w.heap.size w w2 := HB1.trans (hb2.mono HB1.size)
  have hx4 : w2.cell? ⟨w.heap.size, 4, none⟩ = some (.int .i64 im) := by
    rw [hc2 _ _ hz1, hc1 _ _ (by simp)]
    simp
  have hlt : w.heap.size < w2.heap.size := by omega
  clear hb2 HB1 hs hr
  go_wp2_with fail
  generalize hW : w2.alloc (.cells #[.int .i64 f, .int .i64 c, .int .i64 g, .int .i64 h] 31) = W0
  have y4 : W0.cell? ⟨w.heap.size, 4, none⟩ = some (.int .i64 im) := by rw [← hW]; exact (((Below.refl w2.heap.size w2).alloc (Nat.le_refl _) _).cell (p := ⟨w.heap.size, 4, none⟩) hlt).trans hx4
  have y0 : W0.cell? ⟨w2.heap.size, 0, none⟩ = some (.int .i64 f) := by rw [← hW]; simp
  have y1 : W0.cell? ⟨w2.heap.size, 1, none⟩ = some (.int .i64 c) := by rw [← hW]; simp
  have y2 : W0.cell? ⟨w2.heap.size, 2, none⟩ = some (.int .i64 g) := by rw [← hW]; simp
  have y3 : W0.cell? ⟨w2.heap.size, 3, none⟩ = some (.int .i64 h) := by rw [← hW]; simp
  have HBW : Below w.heap.size w W0 := by rw [← hW]; exact HB2.alloc HB2.size _
  have hzW : W0.heap.size = w2.heap.size + 1 := by rw [← hW]; simp
  have hbW : Below W0.heap.size W0 W0 := Below.refl _ _
  clear hW hc1 hc2 hf1 hf2 hz1 hz2 hx4 HB2
  go_region_held3? (fun w' => w'.cell? ⟨w2.heap.size, 0, none⟩ = some (.int .i64 f) ∧ w'.cell? ⟨w2.heap.size, 1, none⟩ = some (.int .i64 c) ∧ w'.cell? ⟨w2.heap.size, 2, none⟩ = some (.int .i64 g) ∧ w'.cell? ⟨w2.heap.size, 3, none⟩ = some (.int .i64 h) ∧ w'.cell? ⟨w.heap.size, 4, none⟩ = some (.int .i64 im)) (go_keep) (first | (go_at_call 29; refine (HF.out _).mono ?_; rintro e w3 ⟨rfl, hb3⟩; have hz3 : W0.heap.size ≤ w3.heap.size := (by have := hb3.size; (try simp at this); omega); have q34 := (hb3.cell (p := ⟨w.heap.size, 4, none⟩) (by first | omega | (simp; omega))).trans (by first | assumption | (simp; assumption)); have q30 := (hb3.cell (p := ⟨w2.heap.size, 0, none⟩) (by first | omega | (simp; omega))).trans (by first | assumption | (simp; assumption)); have q31 := (hb3.cell (p := ⟨w2.heap.size, 1, none⟩) (by first | omega | (simp; omega))).trans (by first | assumption | (simp; assumption)); have q32 := (hb3.cell (p := ⟨w2.heap.size, 2, none⟩) (by first | omega | (simp; omega))).trans (by first | assumption | (simp; assumption)); have q33 := (hb3.cell (p := ⟨w2.heap.size, 3, none⟩) (by first | omega | (simp; omega))).trans (by first | assumption | (simp; assumption))) | (go_at_call 30; refine (HR.out _).mono ?_; rintro e w4 ⟨rfl, hb4⟩; have hz4 : W0.heap.size ≤ w4.heap.size := (by have := hb4.size; (try simp at this); omega); have q44 := (hb4.cell (p := ⟨w.heap.size, 4, none⟩) (by first | omega | (simp; omega))).trans (by first | assumption | (simp; assumption)); have q40 := (hb4.cell (p := ⟨w2.heap.size, 0, none⟩) (by first | omega | (simp; omega))).trans (by first | assumption | (simp; assumption)); have q41 := (hb4.cell (p := ⟨w2.heap.size, 1, none⟩) (by first | omega | (simp; omega))).trans (by first | assumption | (simp; assumption)); have q42 := (hb4.cell (p := ⟨w2.heap.size, 2, none⟩) (by first | omega | (simp; omega))).trans (by first | assumption | (simp; assumption)); have q43 := (hb4.cell (p := ⟨w2.heap.size, 3, none⟩) (by first | omega | (simp; omega))).trans (by first | assumption | (simp; assumption))) | (go_at_call 31; refine (HLy.out _).mono ?_; rintro e w5 ⟨rfl, hb5⟩; have hz5 : W0.heap.size ≤ w5.heap.size := (by have := hb5.size; (try simp at this); omega); have q54 := (hb5.cell (p := ⟨w.heap.size, 4, none⟩) (by first | omega | (simp; omega))).trans (by first | assumption | (simp; assumption)); have q50 := (hb5.cell (p := ⟨w2.heap.size, 0, none⟩) (by first | omega | (simp; omega))).trans (by first | assumption | (simp; assumption)); have q51 := (hb5.cell (p := ⟨w2.heap.size, 1, none⟩) (by first | omega | (simp; omega))).trans (by first | assumption | (simp; assumption)); have q52 := (hb5.cell (p := ⟨w2.heap.size, 2, none⟩) (by first | omega | (simp; omega))).trans (by first | assumption | (simp; assumption)); have q53 := (hb5.cell (p := ⟨w2.heap.size, 3, none⟩) (by first | omega | (simp; omega))).trans (by first | assumption | (simp; assumption))))
  have hsW := HBW.size
  have HB3 : Below w.heap.size w w3 := by
    refine Below.trans ?_ (hb3.mono (by first | omega | (simp; omega)))
    repeat (first | exact HBW | refine Below.drew ?_ | refine bdN ?_ _)
  have HB4 : Below w.heap.size w w4 := by
    refine Below.trans ?_ (hb4.mono (by first | omega | (simp; omega)))
    repeat (first | exact HB3 | refine Below.drew ?_ | refine bdN ?_ _)
  have HB5 : Hid (Below w.heap.size w w5) := by
    refine Below.trans ?_ (hb5.mono (by first | omega | (simp; omega)))
    repeat (first | exact HB4 | refine Below.drew ?_ | refine bdN ?_ _)
  clear hb3 hb4 hb5 HB3 HB4 HBW
  go_wp2
  go_ret2
  exact ⟨ret_ints HE.out rfl, HB5.out⟩
end Go.Proofs.YtdbngfeelfgbeaaGreatDoor

namespace Go.Proofs.YtdbngfeelfgbeaaGreatDoor.Op
open Go.RowKit
set_option linter.unusedVariables false

theorem implName (c : Int) (w : World) (hL : Laid w) :
    Calls Tryz.prog 11 #[.int .i64 c] w fun e w' => e = .returned (.string (wordT c)) ∧ w' = w := by
  by_cases h0 : c < 0
  · go_enter Tryz.func11, Tryz.ntmps11
    go_wp2
    go_ret
    exact ⟨ret_str (wordT_out c (by omega)).symm, rfl⟩
  by_cases h1 : 65 ≤ c
  · go_enter Tryz.func11, Tryz.ntmps11
    go_wp2
    go_ret
    exact ⟨ret_str (wordT_out c (by omega)).symm, rfl⟩
  obtain ⟨i, rfl⟩ := Int.eq_ofNat_of_zero_le (show 0 ≤ c by omega)
  have hi : i < 65 := by omega
  have hc := hL i hi
  have HW : Hid (wordT (i : Int) = wordAt i) := by
    by_cases hz : 1 ≤ i
    · exact wordT_in i hz hi
    · obtain rfl : i = 0 := by omega
      exact wordT_out _ (by omega)
  clear hL
  go_enter Tryz.func11, Tryz.ntmps11
  go_wp2
  go_ret
  exact ⟨ret_str HW.out.symm, rfl⟩

end Go.Proofs.YtdbngfeelfgbeaaGreatDoor.Op

namespace Go.Proofs.YtdbngfeelfgbeaaGreatDoor
open Go.RowKit
set_option linter.unusedVariables false

set_option maxHeartbeats 1000000 in
theorem specShapeV (op : Int) (w : World) (h0 : 1 ≤ op) (h1 : op ≤ 64) :
    Calls Tryz.prog 9 #[.int .i64 op] w fun e w' => e = .returned (.tuple #[shV (shT op), .int .i64 0]) ∧ Below w.heap.size w w' := by
  go_enter Tryz.func9, Tryz.ntmps9
  go_wp2_with fail
  refine (spOp1 op _ true (.inl ⟨rfl, h0, h1⟩)).mono ?_
  rintro e w1 ⟨rfl, rfl⟩
  go_wp2_with fail
  refine (specShC op _).mono ?_
  rintro e w1 ⟨rfl, hb⟩
  obtain ⟨hc, hf⟩ := bcell hb
  have hz : w.heap.size < w1.heap.size := by have := hb.size; simp at this; omega
  unfold shV at *
  go_wp2
  refine bodyPost_ret (v := .tuple #[shV (shT op), .int .i64 0]) (by simp [results, Tryz.results9, go_sem, hc]; rfl) rfl ⟨rfl, ?_⟩
  exact ((((((Below.refl _ _).alloc (Nat.le_refl _) _).trans (hb.mono (by simp))).setCell (Nat.le_refl _) _).setCell (Nat.le_refl _) _).setCell (Nat.le_refl _) _).setCell (Nat.le_refl _) _

end Go.Proofs.YtdbngfeelfgbeaaGreatDoor

namespace Go.Proofs.YtdbngfeelfgbeaaGreatDoor.Tx
open Go.RowKit
set_option linter.unusedVariables false

theorem right_in (K : Nat) (rd r1 r2 im : Int) (hr : rightB (K : Int) rd r1 r2 im = true) :
    1 ≤ K ∧ K ≤ 64 ∧ In64 rd ∧ In64 r1 ∧ In64 r2 ∧ (-1000000000000000000 < im ∧ im < 1000000000000000000) := by
  obtain ⟨h0, h1⟩ := right_op hr
  have hf := shT_form (K : Int) h0 h1
  have hF := rightB_F hr
  obtain ⟨f, hfe⟩ : ∃ f, (shT (K : Int)).1 = f := ⟨_, rfl⟩
  rw [hfe] at hf hF
  obtain ⟨⟨b1, b2, b3⟩, _⟩ := right_parts hf.1 hf.2 hF
  have e1 := of_decide_eq_true b1
  have e2 := of_decide_eq_true b2
  have e3 := of_decide_eq_true b3
  refine ⟨by omega, by omega, ⟨by omega, by omega⟩, ⟨by omega, by omega⟩, ⟨by omega, by omega⟩, ?_⟩
  have hI : ∀ g : Int, okB g im = true → 0 ≤ g → g ≤ 9 → -1000000000000000000 < im ∧ im < 1000000000000000000 := fun g h g0 g9 => by
    have := (okB_iff g im g0 g9).1 h
    unfold okI at this
    repeat' split at this
    all_goals omega
  unfold rightF at hF
  repeat' split at hF
  all_goals simp only [Bool.and_eq_true, beq_iff_eq] at hF
  · exact hI f hF.2 (by omega) (by omega)
  · exact hI f hF.2 (by omega) (by omega)
  · exact hI f hF.2 (by omega) (by omega)
  · omega
  · omega

theorem field_mod (f c g h rd r1 r2 im : Int) (c0 : 0 ≤ c) (c1 : c < 128) : encW f c g h rd r1 r2 im % 128 = c := by
  have hx : ∃ a, fixW f c g h = c + 128 * a := by
    unfold fixW
    repeat' split
    · exact ⟨g * 32 + h / 2 * 524288, by omega⟩
    · exact ⟨g * 32 + h * 8192, by omega⟩
    · exact ⟨g * 32 + h * 262144, by omega⟩
  have hl : ∃ b, layF f im = 128 * b := by
    unfold layF
    repeat' split
    · exact ⟨im / 4096 % 1048576 * 32, by omega⟩
    · exact ⟨im / 4096 % 256 * 32 + im / 2048 % 2 * 8192 + im / 2 % 1024 * 16384 + im / 1048576 % 2 * 16777216, by omega⟩
    · exact ⟨im % 4096 * 8192, by omega⟩
    · exact ⟨im / 2048 % 2 + im / 2 % 16 * 2 + im / 32 % 64 * 262144 + im / 4096 % 2 * 16777216, by omega⟩
    · exact ⟨im % 32 + im / 32 % 128 * 262144, by omega⟩
    · exact ⟨im % 64 * 8192, by omega⟩
    · exact ⟨im % 32 * 8192, by omega⟩
    · exact ⟨0, rfl⟩
  obtain ⟨a, ha⟩ := hx
  obtain ⟨b, hb⟩ := hl
  unfold encW
  rw [ha, hb]
  omega

/-- The two texts that the law reads back. -/
def around (K : Nat) (rd r1 r2 im : Int) : List UInt8 := [32, 32] ++ textB K rd r1 r2 im ++ [32]
def longer (K : Nat) (rd r1 r2 im : Int) : List UInt8 := textB K rd r1 r2 im ++ [32, 120, 49]

theorem text_join (K : Nat) (hK1 : 1 ≤ K) (hK64 : K ≤ 64) (rd r1 r2 im : Int) :
    textB K rd r1 r2 im = Lib.join (Op.words.getD K [] :: fieldsL (letters (shT (K : Int)).1) rd r1 r2 im) [32] := by
  have hf := shT_form (K : Int) (by omega) (by omega)
  unfold textB
  rw [textL_join _ hf.1 hf.2, Int.toNat_natCast]
theorem around_words (K : Nat) (hK1 : 1 ≤ K) (hK64 : K ≤ 64) (rd r1 r2 im : Int) :
    wordsB (txt (around K rd r1 r2 im)) = txt (Op.words.getD K []) :: (fieldsL (letters (shT (K : Int)).1) rd r1 r2 im).map txt := by
  unfold around
  rw [text_join K hK1 hK64]
  exact join_words _ _ _ [32, 32] [32] rfl (.inr rfl) (name_ok K hK1 hK64) (fieldsL_ok _ _ _ _ _) (lead2 _ _ (by rw [List.append_assoc]))
theorem join_more (s : List UInt8) (x : List UInt8) : ∀ ws : List (List UInt8), Lib.joinTail s (ws ++ [x]) = Lib.joinTail s ws ++ s ++ x
  | [] => by simp [Lib.joinTail]
  | a :: r => by simp [Lib.joinTail]
theorem longer_words (K : Nat) (hK1 : 1 ≤ K) (hK64 : K ≤ 64) (rd r1 r2 im : Int) :
    wordsB (txt (longer K rd r1 r2 im)) = txt (Op.words.getD K []) :: ((fieldsL (letters (shT (K : Int)).1) rd r1 r2 im).map txt ++ [txt [120, 49]]) := by
  unfold longer
  rw [text_join K hK1 hK64]
  have := join_words (Op.words.getD K []) (fieldsL (letters (shT (K : Int)).1) rd r1 r2 im ++ [[120, 49]]) (Lib.join (Op.words.getD K [] :: fieldsL (letters (shT (K : Int)).1) rd r1 r2 im) [32] ++ [32, 120, 49]) [] []
    (by simp [Lib.join_cons, join_more]) (.inl rfl) (name_ok K hK1 hK64) (by
      intro w hw
      rcases List.mem_append.1 hw with hw | hw
      · exact fieldsL_ok _ _ _ _ _ w hw
      · rw [List.mem_singleton] at hw
        subst hw
        exact ⟨by simp, by simp⟩) (lead0 _)
  rw [this]
  simp
theorem name_last (K : Nat) (hK1 : 1 ≤ K) (hK64 : K ≤ 64) : Op.lastT (txt (Op.words.getD K [])) 64 = K :=
  Op.lastT_hit _ K (by omega) (by rw [txt_list]; rfl) 64 hK64 (by omega) hK1
theorem text_few (K : Nat) (rd r1 r2 im : Int) (hr : rightB (K : Int) rd r1 r2 im = true) : (textB K rd r1 r2 im).length ≤ 200 := by
  obtain ⟨h0, h1, i1, i2, i3, i4, i5⟩ := right_in K rd r1 r2 im hr
  exact textL_len _ _ _ _ _ _ (names_short _ (by omega)) i1 i2 i3 ⟨by omega, by omega⟩

theorem readAround (K : Nat) (rd r1 r2 im : Int) (hr : rightB (K : Int) rd r1 r2 im = true) (w : World) (hL : Rd.Laid w) :
    Calls Tryz.prog 7 #[.string (txt (around K rd r1 r2 im))] w fun e w' => e = .returned (.tuple #[.agg #[.int .i64 K, .int .i64 rd, .int .i64 r1, .int .i64 r2, .int .i64 im], .int .i64 0]) ∧ Below w.heap.size w w' := by
  obtain ⟨h0, h1, i1, i2, i3, i4⟩ := right_in K rd r1 r2 im hr
  have hf := shT_form (K : Int) (by omega) (by omega)
  have hF := rightB_F hr
  have hl := text_few K rd r1 r2 im hr
  have hws := around_words K h0 h1 rd r1 r2 im
  have hT := letters_told (shT (K : Int)).1 hf.1 hf.2
  obtain ⟨a1, a2⟩ := agree_words _ hf.1 hf.2 ((fieldsL (letters (shT (K : Int)).1) rd r1 r2 im).map txt) rd r1 r2 im hF i4 ((lst_txt _ _).1 rfl).symm
  obtain ⟨f, c, g, h, hs⟩ : ∃ f c g h, shT (K : Int) = (f, c, g, h) := ⟨_, _, _, _, rfl⟩
  rw [show (shT (K : Int)).1 = f by rw [hs]] at hT a1 a2 hws
  refine (readSome _ (by rw [txt_size]; unfold around; simp; omega) _ _ hws K (name_last K h0 h1) f c g h hs _ hT w hL).mono ?_
  rintro e w' ⟨p1, _, p3⟩
  rw [txt_list, txt_size] at p1
  exact ⟨p1 a1 _ a2 hr, p3⟩

theorem readLonger (K : Nat) (rd r1 r2 im : Int) (hr : rightB (K : Int) rd r1 r2 im = true) (w : World) (hL : Rd.Laid w) :
    Calls Tryz.prog 7 #[.string (txt (longer K rd r1 r2 im))] w fun e w' => e = .returned (.tuple #[.agg #[.int .i64 0, .int .i64 0, .int .i64 0, .int .i64 0, .int .i64 0], .int .i64 3]) ∧ Below w.heap.size w w' := by
  obtain ⟨h0, h1, i1, i2, i3, i4⟩ := right_in K rd r1 r2 im hr
  have hf := shT_form (K : Int) (by omega) (by omega)
  have hl := text_few K rd r1 r2 im hr
  have hws := longer_words K h0 h1 rd r1 r2 im
  have hT := letters_told (shT (K : Int)).1 hf.1 hf.2
  obtain ⟨f, c, g, h, hs⟩ : ∃ f c g h, shT (K : Int) = (f, c, g, h) := ⟨_, _, _, _, rfl⟩
  rw [show (shT (K : Int)).1 = f by rw [hs]] at hT hws
  refine (readSome _ (by rw [txt_size]; unfold longer; simp; omega) _ _ hws K (name_last K h0 h1) f c g h hs _ hT w hL).mono ?_
  rintro e w' ⟨_, p2, p3⟩
  refine ⟨p2 ?_, p3⟩
  rw [txt_size]
  rintro ⟨q1, _⟩
  simp [fieldsL] at q1

/-- The name is what the text begins with. -/
theorem name_head (K : Nat) (rd r1 r2 im : Int) (hr : rightB (K : Int) rd r1 r2 im = true) : ∃ r : List UInt8, textB K rd r1 r2 im = Op.words.getD K [] ++ r := by
  obtain ⟨h0, h1, _⟩ := right_in K rd r1 r2 im hr
  rw [text_join K h0 h1, Lib.join_cons]
  exact ⟨_, rfl⟩
theorem name_cut (K : Nat) (rd r1 r2 im : Int) (hr : rightB (K : Int) rd r1 r2 im = true) :
    (txt (Op.words.getD K [])).size ≤ (txt (textB K rd r1 r2 im)).size ∧ (txt (textB K rd r1 r2 im)).extract 0 (txt (Op.words.getD K [])).size = txt (Op.words.getD K []) := by
  obtain ⟨r, h⟩ := name_head K rd r1 r2 im hr
  rw [h, ext_txt]
  simp only [txt_size]
  exact ⟨by simp, by simp⟩

/-- All that the law asks at a right instruction. -/
theorem textsAll (op rd r1 r2 im : Int) (hr : rightB op rd r1 r2 im = true) : ∃ (T A0 A B N : ByteArray) (f c g h W : Int),
    (∀ w, Rd.Laid w → Calls Tryz.prog 5 #[.agg #[.int .i64 op, .int .i64 rd, .int .i64 r1, .int .i64 r2, .int .i64 im]] w fun e w' => e = .returned (.tuple #[.string T, .int .i64 0]) ∧ Below w.heap.size w w') ∧
    (∀ w, Calls Tryz.prog 6 #[.agg #[.int .i64 op, .int .i64 rd, .int .i64 r1, .int .i64 r2, .int .i64 im]] w fun e w' => e = .returned (.tuple #[.string T, .int .i64 0]) ∧ Below w.heap.size w w') ∧
    (∀ w, (Op.stringOp .add { data := #[32, 32] } T).run Tryz.prog w = .ok (.string A0) w) ∧
    (∀ w, (Op.stringOp .add A0 { data := #[32] }).run Tryz.prog w = .ok (.string A) w) ∧
    (∀ w, (Op.stringOp .add T { data := #[32, 120, 49] }).run Tryz.prog w = .ok (.string B) w) ∧
    (∀ w, Rd.Laid w → Calls Tryz.prog 7 #[.string A] w fun e w' => e = .returned (.tuple #[.agg #[.int .i64 op, .int .i64 rd, .int .i64 r1, .int .i64 r2, .int .i64 im], .int .i64 0]) ∧ Below w.heap.size w w') ∧
    (∀ w, Rd.Laid w → Calls Tryz.prog 7 #[.string B] w fun e w' => e = .returned (.tuple #[.agg #[.int .i64 0, .int .i64 0, .int .i64 0, .int .i64 0, .int .i64 0], .int .i64 3]) ∧ Below w.heap.size w w') ∧
    (∀ w, Calls Tryz.prog 8 #[.int .i64 op] w fun e w' => e = .returned (.tuple #[.agg #[.int .i64 f, .int .i64 c, .int .i64 g, .int .i64 h], .int .i64 0]) ∧ Below w.heap.size w w') ∧
    (∀ w, Calls Tryz.prog 9 #[.int .i64 op] w fun e w' => e = .returned (.tuple #[.agg #[.int .i64 f, .int .i64 c, .int .i64 g, .int .i64 h], .int .i64 0]) ∧ Below w.heap.size w w') ∧
    (∀ w, Rd.Laid w → Calls Tryz.prog 10 #[.agg #[.int .i64 op, .int .i64 rd, .int .i64 r1, .int .i64 r2, .int .i64 im]] w fun e w' => e = .returned (.tuple #[.int .i64 W, .int .i64 0]) ∧ Below w.heap.size w w') ∧
    (W % 128 = c ∧ W.tmod 128 = c ∧ 0 ≤ c ∧ c < 128) ∧
    (∀ w, Rd.Laid w → Calls Tryz.prog 11 #[.int .i64 op] w fun e w' => e = .returned (.string N) ∧ w' = w) ∧
    (∀ w, Rd.Laid w → Calls Tryz.prog 12 #[.string N] w fun e w' => e = .returned (.int .i64 op) ∧ Below w.heap.size w w') ∧
    N.size ≤ T.size ∧ T.size ≤ 200 ∧ T.extract 0 N.size = N := by
  obtain ⟨h0, h1⟩ := right_op hr
  obtain ⟨K, rfl⟩ : ∃ K : Nat, op = (K : Int) := ⟨op.toNat, by omega⟩
  obtain ⟨k0, k1, i1, i2, i3, i4, i5⟩ := right_in K rd r1 r2 im hr
  have i4' : In64 im := ⟨by omega, by omega⟩
  have hl := text_few K rd r1 r2 im hr
  obtain ⟨f, c, g, h, hs⟩ : ∃ f c g h, shT (K : Int) = (f, c, g, h) := ⟨_, _, _, _, rfl⟩
  have hok : shOK f c g h = true := by
    have := shT_ok (K : Int) h0 h1
    rw [hs] at this
    exact this
  obtain ⟨f0, f1, c0, c1, g0, g1, hh0, hh1⟩ := sh_bounds hok
  have hA : ansB (K : Int) rd r1 r2 im = txt (textB K rd r1 r2 im) := by unfold ansB; rw [if_pos hr]
  have hC : ansC (K : Int) rd r1 r2 im = 0 := by unfold ansC; rw [if_pos hr]
  have hW0 : 0 ≤ encW f c g h rd r1 r2 im := by
    obtain ⟨⟨b1, b2, b3⟩, _⟩ := right_parts (f := f) f0 f1 (by have := rightB_F hr; rw [hs] at this; exact this)
    have e1 := of_decide_eq_true b1
    have e2 := of_decide_eq_true b2
    have e3 := of_decide_eq_true b3
    have a1 : 0 ≤ fixW f c g h := by unfold fixW; repeat' split <;> omega
    have a2 : 0 ≤ layF f im := by unfold layF; repeat' split <;> omega
    unfold encW
    omega
  have hWm := field_mod f c g h rd r1 r2 im c0 c1
  refine ⟨txt (textB K rd r1 r2 im), txt ([32, 32] ++ textB K rd r1 r2 im), txt (around K rd r1 r2 im), txt (longer K rd r1 r2 im), txt (Op.words.getD K []), f, c, g, h, encW f c g h rd r1 r2 im,
    fun w hL => ?_, fun w => ?_, fun w => ?_, fun w => ?_, fun w => ?_, fun w hL => readAround K rd r1 r2 im hr w hL, fun w hL => readLonger K rd r1 r2 im hr w hL, fun w => ?_, fun w => ?_, fun w hL => ?_, ⟨hWm, by rw [Int.tmod_eq_emod_of_nonneg hW0]; exact hWm, c0, c1⟩, fun w hL => ?_, fun w hL => ?_, (name_cut K rd r1 r2 im hr).1, by rw [txt_size]; exact hl, (name_cut K rd r1 r2 im hr).2⟩
  · have := implTextC (K : Int) rd r1 r2 im i1 i2 i3 i4' w hL.x
    rw [hA, hC] at this
    exact this
  · have := specTextC (K : Int) rd r1 r2 im i1 i2 i3 i4' w
    rw [hA, hC] at this
    exact this
  · exact plus [32, 32] (textB K rd r1 r2 im) (by simp; omega) w
  · exact plus ([32, 32] ++ textB K rd r1 r2 im) [32] (by simp; omega) w
  · exact plus (textB K rd r1 r2 im) [32, 120, 49] (by simp; omega) w
  · have := shapeOK (K : Int) w h0 h1
    rw [hs] at this
    exact this
  · have := specShapeV (K : Int) w h0 h1
    rw [hs] at this
    exact this
  · exact encYes (K : Int) rd r1 r2 im f c g h w hL.x.e hr hs
  · have := Op.implName (K : Int) w hL.x.o
    rw [Op.wordT_in K k0 (by omega)] at this
    exact this
  · have hsz : (txt (Op.words.getD K [])).size ≤ maxLen := by
      rw [txt_size]
      have := names_short K (by omega)
      unfold maxLen
      omega
    have := Op.implOf (txt (Op.words.getD K [])) w hL.x.o hsz
    rw [name_last K k0 k1] at this
    exact this
end Go.Proofs.YtdbngfeelfgbeaaGreatDoor.Tx

namespace Go.Proofs.YtdbngfeelfgbeaaGreatDoor
open Go.RowKit
set_option linter.unusedVariables false

/-- Fewer draws than more than any law makes. (A structure: nothing lays it open in a walk.) -/
structure Few (p : Int) : Prop where
  lt : p < 1000000000

/-- A source of draws at block b: its code, how many were drawn, its seed. -/
structure Src (w : World) (b : Nat) (a : Option Addr) (len cap : Nat) (p sd : Int) : Prop where
  c0 : w.cell? ⟨b, 0, none⟩ = some (.slice a len cap)
  c1 : w.cell? ⟨b, 1, none⟩ = some (.int .i64 p)
  c2 : w.cell? ⟨b, 2, none⟩ = some (.int .i64 sd)
  f1 : w.frozen? ⟨b, 1, none⟩ = false
  f2 : w.frozen? ⟨b, 2, none⟩ = false
  p0 : 0 ≤ p
  p1 : p ≤ 1000000000
  s0 : 0 ≤ sd
  s1 : sd < 2147483648

/-- The first len cells of a slice of bytes that came in ahead of block B. -/
def Bytes (w : World) (B : Nat) (a : Option Addr) (len : Nat) : Prop :=
  len ≤ maxLen ∧ ∀ i, i < len → ∃ (bx off : Nat) (c : Int), a = some ⟨bx, off, none⟩ ∧ bx < B ∧ 0 ≤ c ∧ c < 256 ∧ w.cell? ⟨bx, off + i, none⟩ = some (.int .u8 c)

theorem Bytes.below {w w' : World} {B : Nat} {a : Option Addr} {len : Nat} (h : Bytes w B a len) (hb : Below B w w') : Bytes w' B a len :=
  ⟨h.1, fun i hi => by
    obtain ⟨bx, off, c, h1, h2, h3, h4, h5⟩ := h.2 i hi
    exact ⟨bx, off, c, h1, h2, h3, h4, (hb.cell (p := ⟨bx, off + i, none⟩) h2).trans h5⟩⟩

theorem grownBy_setCell {w : World} {b o : Nat} {u : Value} : w.grownBy (w.setCell ⟨b, o, none⟩ u) (some b) := by
  have h := (Below.refl 0 w).setCell (p := ⟨b, o, none⟩) (Nat.zero_le _) u
  exact ⟨h.os, h.tape, h.output, h.size, fun k _ hne => Below.heap_setCell w ⟨b, o, none⟩ u k (by intro e; exact hne (by rw [e]))⟩

theorem grownBy_drew {w w' : World} {r : Option Nat} (h : w.grownBy w' r) : w.grownBy w'.drew r := ⟨h.os, h.tape, h.output, h.size, h.block⟩

theorem grownBy_trans {w w1 w2 : World} {r : Option Nat} (h : w.grownBy w1 r) (k : w1.grownBy w2 r) : w.grownBy w2 r :=
  ⟨k.os.trans h.os, k.tape.trans h.tape, k.output.trans h.output, Nat.le_trans h.size k.size, fun i hi hne => (k.block i (Nat.lt_of_lt_of_le hi h.size) hne).trans (h.block i hi hne)⟩

theorem Src.drew {w : World} {b : Nat} {a : Option Addr} {len cap : Nat} {p sd : Int} (h : Src w b a len cap p sd) : Src w.drew b a len cap p sd :=
  ⟨h.c0, h.c1, h.c2, h.f1, h.f2, h.p0, h.p1, h.s0, h.s1⟩

theorem Src.step1 {w : World} {b : Nat} {a : Option Addr} {len cap : Nat} {p sd : Int} (h : Src w b a len cap p sd) (hp : Few p) : Src (w.setCell ⟨b, 1, none⟩ (.int .i64 (p + 1))) b a len cap (p + 1) sd :=
  ⟨(World.cell?_setCell_other _ _ _ _ (by simp)).trans h.c0, World.cell?_setCell_same _ _ _ h.c1, (World.cell?_setCell_other _ _ _ _ (by simp)).trans h.c2,
    (World.frozen?_setCell _ _ _ _).trans h.f1, (World.frozen?_setCell _ _ _ _).trans h.f2, by have := h.p0; omega, by have := hp.lt; omega, h.s0, h.s1⟩

theorem Src.step2 {w : World} {b : Nat} {a : Option Addr} {len cap : Nat} {p sd sd' : Int} (h : Src w b a len cap p sd) (h0 : 0 ≤ sd') (h1 : sd' < 2147483648) : Src (w.setCell ⟨b, 2, none⟩ (.int .i64 sd')) b a len cap p sd' :=
  ⟨(World.cell?_setCell_other _ _ _ _ (by simp)).trans h.c0, (World.cell?_setCell_other _ _ _ _ (by simp)).trans h.c1, World.cell?_setCell_same _ _ _ h.c2,
    (World.frozen?_setCell _ _ _ _).trans h.f1, (World.frozen?_setCell _ _ _ _).trans h.f2, h.p0, h.p1, h0, h1⟩

set_option maxRecDepth 100000 in
set_option maxHeartbeats 1000000 in
theorem byte_read (b bx off len cap i : Nat) (sd c : Int) (w : World) (h : Src w b (some ⟨bx, off, none⟩) len cap i sd) (hi : i < len) (hl : len ≤ maxLen) (hp : Few i) (hbx : bx < b) (hc : w.cell? ⟨bx, off + i, none⟩ = some (.int .u8 c)) (hc0 : 0 ≤ c) (hc1 : c < 256) :
    Calls Tryz.prog 56 #[.pointer (some ⟨b, 0, none⟩)] w fun e w' => ∃ v sd' : Int, e = .returned (.int .i64 v) ∧ 0 ≤ v ∧ v < 256 ∧ Src w' b (some ⟨bx, off, none⟩) len cap (i + 1) sd' ∧ w.grownBy w' (some b) := by
  have h' : Hid (Src w b (some ⟨bx, off, none⟩) len cap i sd) := h
  obtain ⟨c0, c1, c2, f1, f2, p0, p1, s0, s1⟩ := h
  unfold maxLen at hl
  have hi' : (i : Int) < (len : Int) := by omega
  have hne : bx ≠ b := by omega
  go_enter Tryz.func56, Tryz.ntmps56
  go_wp2_with fail
  go_region
  go_wp2_with fail
  go_region
  go_wp2_with fail
  go_region
  go_wp2
  go_ret
  refine ⟨_, (sd * 31 + c + 7) % 2147483648, rfl, hc0, hc1, ?_, ?_⟩
  rotate_left
  · repeat (refine grownBy_drew ?_)
    exact grownBy_trans grownBy_setCell grownBy_setCell
  · repeat (refine Src.drew ?_)
    exact (h'.out.step1 hp).step2 (by omega) (by omega)

set_option maxRecDepth 100000 in
set_option maxHeartbeats 1000000 in
/-- A byte is drawn: it is a byte, and of what was there the source's own block alone has turned. -/
theorem byte_any (b len cap B : Nat) (a : Option Addr) (p sd : Int) (w : World) (h : Src w b a len cap p sd) (hp : Few p) (hB : Bytes w B a len) (hb : B ≤ b) :
    Calls Tryz.prog 56 #[.pointer (some ⟨b, 0, none⟩)] w fun e w' => ∃ v sd' : Int, e = .returned (.int .i64 v) ∧ 0 ≤ v ∧ v < 256 ∧ Src w' b a len cap (p + 1) sd' ∧ w.grownBy w' (some b) := by
  have h' := h
  obtain ⟨c0, c1, c2, f1, f2, p0, p1, s0, s1⟩ := h
  have hl := hB.1
  unfold maxLen at hl
  by_cases hi : p < len
  · obtain ⟨i, rfl⟩ := Int.eq_ofNat_of_zero_le p0
    obtain ⟨bx, off, c, rfl, hbx, hc0, hc1, hc⟩ := hB.2 i (by omega)
    exact byte_read b bx off len cap i sd c w h' (by omega) hB.1 hp (by omega) hc hc0 hc1
  · have hi' : (len : Int) ≤ p := by omega
    clear hB hi
    by_cases hq : 3000 < p + 1
    · go_enter Tryz.func56, Tryz.ntmps56
      go_wp2_with fail
      go_region
      go_wp2
      go_ret
      refine ⟨_, sd, rfl, by omega, by omega, ?_, ?_⟩
      · exact (h'.step1 hp).drew
      · exact grownBy_drew grownBy_setCell
    · go_enter Tryz.func56, Tryz.ntmps56
      go_wp2_with fail
      go_region
      go_wp2
      go_ret
      refine ⟨_, (sd * 1103515245 + 12345) % 2147483648, rfl, ?_, ?_, ?_, ?_⟩
      rotate_left 3
      · repeat (refine grownBy_drew ?_)
        exact grownBy_trans grownBy_setCell grownBy_setCell
      · omega
      · omega
      · repeat (refine Src.drew ?_)
        exact (h'.step1 hp).step2 (by omega) (by omega)

/-- The same, the byte as a byte. -/
theorem byte_draw (b len cap B : Nat) (a : Option Addr) (p sd : Int) (w : World) (h : Src w b a len cap p sd) (hp : Few p) (hB : Bytes w B a len) (hb : B ≤ b) :
    Calls Tryz.prog 56 #[.pointer (some ⟨b, 0, none⟩)] w fun e w' => ∃ (c : UInt8) (sd' : Int), e = .returned (.int .i64 (c.toNat : Int)) ∧ Src w' b a len cap (p + 1) sd' ∧ w.grownBy w' (some b) :=
  (byte_any b len cap B a p sd w h hp hB hb).mono fun e w' ⟨v, sd', he, h0, h1, hs, hg⟩ => by
    refine ⟨UInt8.ofNat v.toNat, sd', ?_, hs, hg⟩
    rw [he, UInt8.toNat_ofNat_of_lt' (by show v.toNat < 256; omega), Int.toNat_of_nonneg h0]
end Go.Proofs.YtdbngfeelfgbeaaGreatDoor

namespace Go.Proofs.YtdbngfeelfgbeaaGreatDoor
open Go.RowKit
set_option linter.unusedVariables false

theorem Bytes.grown {w w' : World} {B b : Nat} {a : Option Addr} {len : Nat} (h : Bytes w B a len) (hg : w.grownBy w' (some b)) (hB : B ≤ b) (hs : B ≤ w.heap.size) : Bytes w' B a len :=
  ⟨h.1, fun i hi => by
    obtain ⟨bx, off, c, h1, h2, h3, h4, h5⟩ := h.2 i hi
    exact ⟨bx, off, c, h1, h2, h3, h4, (World.cell?_of_block (hg.block bx (by omega) (by intro e; injection e; omega))).trans h5⟩⟩

theorem Src.grown {w w' : World} {b : Nat} {a : Option Addr} {len cap : Nat} {p sd : Int} {row : Option Nat} (h : Src w b a len cap p sd) (hg : w.grownBy w' row) (hb : b < w.heap.size) (hne : some b ≠ row) : Src w' b a len cap p sd :=
  ⟨(World.cell?_of_block (hg.block b hb hne)).trans h.c0, (World.cell?_of_block (hg.block b hb hne)).trans h.c1, (World.cell?_of_block (hg.block b hb hne)).trans h.c2,
    (World.frozen?_of_block (hg.block b hb hne)).trans h.f1, (World.frozen?_of_block (hg.block b hb hne)).trans h.f2, h.p0, h.p1, h.s0, h.s1⟩

theorem Src.alloc {w : World} {b : Nat} {a : Option Addr} {len cap : Nat} {p sd : Int} (h : Src w b a len cap p sd) (hb : b < w.heap.size) (o : Obj) : Src (w.alloc o) b a len cap p sd :=
  h.grown (World.grownBy_alloc w o none) hb (by simp)

theorem grownBy_own {w w1 w2 : World} {r row : Option Nat} (h : w.grownBy w1 r) (k : w1.grownBy w2 row) (hr : ∀ i, row = some i → w.heap.size ≤ i) : w.grownBy w2 r :=
  ⟨k.os.trans h.os, k.tape.trans h.tape, k.output.trans h.output, Nat.le_trans h.size k.size, fun i hi hne =>
    (k.block i (Nat.lt_of_lt_of_le hi h.size) (by intro e; have := hr i e.symm; omega)).trans (h.block i hi hne)⟩

theorem grownBy_alloc1 {w w1 : World} {r : Option Nat} (h : w.grownBy w1 r) (o : Obj) : w.grownBy (w1.alloc o) r :=
  grownBy_own h (World.grownBy_alloc w1 o none) (fun _ e => by cases e)

theorem wrap_i64_in (x : Int) (h : -9223372036854775808 ≤ x) (h' : x < 9223372036854775808) : IntKind.i64.wrap x = x := by
  rw [IntKind.wrap_i64]
  omega

theorem at_val (c d : Int) (i len n : Nat) (hc0 : 0 ≤ c) (hc1 : c < 256) (hd0 : 0 ≤ d) (hd1 : d < 256) (hi : i ≤ 1000) (hn : 2 ≤ n) :
    ∃ v : Nat, v < n ∧ (IntKind.i64.wrap (IntKind.i64.wrap (IntKind.i64.wrap (IntKind.i64.wrap c * 31) + IntKind.i64.wrap d) + IntKind.i64.wrap ((i : Int) / (len : Int)))).tmod (n : Int) = (v : Int) := by
  have hq : (i : Int) / (len : Int) = ((i / len : Nat) : Int) := by simp
  have hq1 := Nat.div_le_self i len
  rw [hq]
  generalize i / len = q at *
  rw [wrap_i64_in c (by omega) (by omega), wrap_i64_in (c * 31) (by omega) (by omega), wrap_i64_in d (by omega) (by omega), wrap_i64_in (c * 31 + d) (by omega) (by omega), wrap_i64_in (q : Int) (by omega) (by omega), wrap_i64_in (c * 31 + d + q) (by omega) (by omega)]
  rw [Int.tmod_eq_emod_of_nonneg (by omega)]
  have h0 := Int.emod_nonneg (c * 31 + d + (q : Int)) (show (n : Int) ≠ 0 by omega)
  have h1 := Int.emod_lt_of_pos (c * 31 + d + (q : Int)) (show (0 : Int) < (n : Int) by omega)
  generalize (c * 31 + d + (q : Int)) % (n : Int) = r at *
  exact ⟨r.toNat, by omega, by omega⟩

theorem source_any (len cap : Nat) (a : Option Addr) (w : World) (hl : len ≤ maxLen) :
    Calls Tryz.prog 13 #[.slice a len cap] w fun e w' => ∃ sd : Int, e = .returned (.pointer (some ⟨w.heap.size, 0, none⟩)) ∧ Src w' w.heap.size a len cap (0 : Nat) sd ∧ Below w.heap.size w w' ∧ w.heap.size < w'.heap.size := by
  unfold maxLen at hl
  go_enter Tryz.func13, Tryz.ntmps13
  go_wp2
  go_ret
  exact ⟨(len : Int) % 1000, rfl, ⟨by simp, by simp, by simp, by simp, by simp, by simp, by omega, by omega, by omega⟩, (Below.refl _ _).alloc (Nat.le_refl _) _, by simp⟩

end Go.Proofs.YtdbngfeelfgbeaaGreatDoor

namespace Go.Proofs.YtdbngfeelfgbeaaGreatDoor
open Go.RowKit
set_option linter.unusedVariables false

/-- A source from which at most m draws were made. -/
structure Ctx (w : World) (B b : Nat) (a : Option Addr) (len cap m : Nat) : Prop where
  src : ∃ p sd : Int, p ≤ m ∧ Src w b a len cap p sd
  bytes : Bytes w B a len
  le : B ≤ b
  bw : b < w.heap.size

theorem Ctx.mono {w : World} {B b len cap m m' : Nat} {a : Option Addr} (h : Ctx w B b a len cap m) (hm : m ≤ m') : Ctx w B b a len cap m' := by
  obtain ⟨⟨p, sd, hp, hs⟩, h1, h2, h3⟩ := h
  exact ⟨⟨p, sd, by omega, hs⟩, h1, h2, h3⟩
theorem Ctx.alloc {w : World} {B b len cap m : Nat} {a : Option Addr} (h : Ctx w B b a len cap m) (o : Obj) : Ctx (w.alloc o) B b a len cap m := by
  obtain ⟨⟨p, sd, hp, hs⟩, h1, h2, h3⟩ := h
  exact ⟨⟨p, sd, hp, hs.alloc h3 o⟩, h1.below ((Below.refl _ _).alloc (by omega) o), h2, by simp; omega⟩
theorem Ctx.drew {w : World} {B b len cap m : Nat} {a : Option Addr} (h : Ctx w B b a len cap m) : Ctx w.drew B b a len cap m := by
  obtain ⟨⟨p, sd, hp, hs⟩, h1, h2, h3⟩ := h
  exact ⟨⟨p, sd, hp, hs.drew⟩, h1.below (Below.refl _ _).drew, h2, h3⟩

theorem byte_ctx (B b len cap m : Nat) (a : Option Addr) (w : World) (h : Ctx w B b a len cap m) (hm : m ≤ 100000) :
    Calls Tryz.prog 56 #[.pointer (some ⟨b, 0, none⟩)] w fun e w' => ∃ v : Nat, v < 256 ∧ e = .returned (.int .i64 v) ∧ Ctx w' B b a len cap (m + 1) ∧ w.grownBy w' (some b) := by
  obtain ⟨⟨p, sd, hp, hs⟩, h1, h2, h3⟩ := h
  refine (byte_any b len cap B a p sd w hs ⟨by omega⟩ h1 h2).mono ?_
  rintro e w' ⟨v, sd', he, hv0, hv1, hs', hg⟩
  obtain ⟨v, rfl⟩ := Int.eq_ofNat_of_zero_le hv0
  exact ⟨v, by omega, he, ⟨⟨p + 1, sd', by omega, hs'⟩, h1.grown hg h2 (by omega), h2, Nat.lt_of_lt_of_le h3 hg.size⟩, hg⟩

theorem next_small (B b len cap m n : Nat) (a : Option Addr) (w : World) (h : Ctx w B b a len cap m) (hm : m ≤ 100000) (hn0 : 2 ≤ n) (hn1 : n ≤ 256) :
    Calls Tryz.prog 33 #[.pointer (some ⟨b, 0, none⟩), .int .i64 n] w fun e w' => ∃ v : Nat, v < n ∧ e = .returned (.int .i64 v) ∧ Ctx w' B b a len cap (m + 1) ∧ w.grownBy w' (some b) := by
  have hnz : ¬ n = 0 := by omega
  go_enter Tryz.func33, Tryz.ntmps33
  go_wp2_with fail
  refine (byte_ctx B b len cap m a w h hm).mono ?_
  rintro e w1 ⟨v, hv, rfl, hc, hg⟩
  have hml := Nat.mod_lt v (show 0 < n by omega)
  have e1 : (v : Int) % (n : Int) = ((v % n : Nat) : Int) := by simp
  have e2 : (v : Int).tmod (n : Int) = ((v % n : Nat) : Int) := by rw [Int.tmod_eq_emod_of_nonneg (by omega)]; exact e1
  generalize v % n = r at *
  go_wp2
  go_ret
  exact ⟨r, hml, rfl, hc, hg⟩

theorem next_300 (B b len cap m : Nat) (a : Option Addr) (w : World) (h : Ctx w B b a len cap m) (hm : m ≤ 99000) :
    Calls Tryz.prog 33 #[.pointer (some ⟨b, 0, none⟩), .int .i64 300] w fun e w' => ∃ v : Nat, v < 300 ∧ e = .returned (.int .i64 v) ∧ Ctx w' B b a len cap (m + 3) ∧ w.grownBy w' (some b) := by
  go_enter Tryz.func33, Tryz.ntmps33
  go_wp2_with fail
  refine (byte_ctx B b len cap m a w h (by omega)).mono ?_
  rintro e w1 ⟨x, hx, rfl, hc1, hg1⟩
  go_wp2_with fail
  refine (byte_ctx B b len cap _ a _ hc1 (by omega)).mono ?_
  rintro e w2 ⟨y, hy, rfl, hc2, hg2⟩
  go_wp2_with fail
  refine (byte_ctx B b len cap _ a _ hc2 (by omega)).mono ?_
  rintro e w3 ⟨z, hz, rfl, hc3, hg3⟩
  have hg := grownBy_trans (grownBy_trans hg1 hg2) hg3
  clear hg1 hg2 hg3 hc1 hc2 h
  go_wp2
  go_ret
  refine ⟨(x * 65536 + y * 256 + z) % 300, by omega, congrArg (fun x => Ending.returned (.int .i64 x)) ?_, hc3, hg⟩
  omega

end Go.Proofs.YtdbngfeelfgbeaaGreatDoor

namespace Go.Proofs.YtdbngfeelfgbeaaGreatDoor

theorem and_at (w n k : Nat) : w &&& ((2 ^ n - 1) * 2 ^ k) = w / 2 ^ k % 2 ^ n * 2 ^ k := by
  apply Nat.eq_of_testBit_eq
  intro i
  rw [Nat.testBit_and, ← Nat.shiftLeft_eq, ← Nat.shiftLeft_eq, Nat.testBit_shiftLeft, Nat.testBit_shiftLeft, Nat.testBit_two_pow_sub_one, Nat.testBit_mod_two_pow, ← Nat.shiftRight_eq_div_pow, Nat.testBit_shiftRight]
  by_cases h : k ≤ i
  · have e : k + (i - k) = i := by omega
    rw [e]
    simp [h, Bool.and_comm]
  · simp [h]
theorem and_split (w a b : Nat) (h : a ||| b = a + b) : w &&& (a + b) = (w &&& a) ||| (w &&& b) := by
  rw [← h, Nat.and_or_distrib_left]
theorem i64_and_nat (a b : Nat) (ha : a < 4294967296) (hb : b < 4294967296) : bits .and .i64 (a : Int) (b : Int) = ((a &&& b : Nat) : Int) := by
  have hx : a &&& b < 2 ^ 32 := Nat.and_lt_two_pow _ (by omega)
  show IntKind.i64.wrap ((BitVec.ofInt 64 (a : Int) &&& BitVec.ofInt 64 (b : Int)).toNat : Int) = _
  rw [BitVec.toNat_and, ofInt_u64 a (by omega), ofInt_u64 b (by omega), IntWalk.i64_in _ (by omega)]

/-- The word's bits that are fixed in a form. -/
theorem and_127 (w : Nat) (_h : w < 4294967296) : bits .and .i64 (w : Int) 127 = ((w % 128 : Nat) : Int) := by
  have := i64_and_mask (w : Int) 7 (by decide)
  have e : bits .and .i64 (w : Int) 127 = (w : Int) % 128 := this
  rw [e]
  omega
theorem and_28799 (w : Nat) (h : w < 4294967296) : bits .and .i64 (w : Int) 28799 = ((w % 128 + w / 4096 % 8 * 4096 : Nat) : Int) := by
  have e := i64_and_nat w 28799 h (by decide)
  have e2 : w &&& 28799 = w % 128 + w / 4096 % 8 * 4096 := by
    rw [show 28799 = 127 + 7 * 4096 by decide, and_split w 127 (7 * 4096) (by decide)]
    have a1 : w &&& 127 = w % 128 := Nat.and_two_pow_sub_one_eq_mod w 7
    have a2 : w &&& (7 * 4096) = w / 4096 % 8 * 4096 := and_at w 3 12
    rw [a1, a2, or_gap 12 3 (w % 128) (w / 4096 % 8 * 4096) (by omega) (by omega) (by omega)]
  rw [e2] at e
  exact e
theorem and_4227887231 (w : Nat) (h : w < 4294967296) : bits .and .i64 (w : Int) 4227887231 = ((w % 128 + w / 4096 % 8 * 4096 + w / 67108864 * 67108864 : Nat) : Int) := by
  have e := i64_and_nat w 4227887231 h (by decide)
  have e2 : w &&& 4227887231 = w % 128 + w / 4096 % 8 * 4096 + w / 67108864 * 67108864 := by
    rw [show 4227887231 = 127 + 7 * 4096 + 63 * 67108864 by decide, and_split w (127 + 7 * 4096) (63 * 67108864) (by decide), and_split w 127 (7 * 4096) (by decide)]
    have a1 : w &&& 127 = w % 128 := Nat.and_two_pow_sub_one_eq_mod w 7
    have a2 : w &&& (7 * 4096) = w / 4096 % 8 * 4096 := and_at w 3 12
    have a3 : w &&& (63 * 67108864) = w / 67108864 % 64 * 67108864 := and_at w 6 26
    have a4 : w / 67108864 % 64 = w / 67108864 := by omega
    rw [a1, a2, a3, a4, or_gap 12 3 (w % 128) (w / 4096 % 8 * 4096) (by omega) (by omega) (by omega)]
    have p : w % 128 + w / 4096 % 8 * 4096 < 67108864 := by omega
    have q : w / 67108864 < 64 := by omega
    generalize w % 128 + w / 4096 % 8 * 4096 = x at *
    generalize w / 67108864 = y at *
    rw [or_gap 26 6 x (y * 67108864) (by omega) (by omega) (by omega)]
  rw [e2] at e
  exact e
theorem and_4261441663 (w : Nat) (h : w < 4294967296) : bits .and .i64 (w : Int) 4261441663 = ((w % 128 + w / 4096 % 8 * 4096 + w / 33554432 * 33554432 : Nat) : Int) := by
  have e := i64_and_nat w 4261441663 h (by decide)
  have e2 : w &&& 4261441663 = w % 128 + w / 4096 % 8 * 4096 + w / 33554432 * 33554432 := by
    rw [show 4261441663 = 127 + 7 * 4096 + 127 * 33554432 by decide, and_split w (127 + 7 * 4096) (127 * 33554432) (by decide), and_split w 127 (7 * 4096) (by decide)]
    have a1 : w &&& 127 = w % 128 := Nat.and_two_pow_sub_one_eq_mod w 7
    have a2 : w &&& (7 * 4096) = w / 4096 % 8 * 4096 := and_at w 3 12
    have a3 : w &&& (127 * 33554432) = w / 33554432 % 128 * 33554432 := and_at w 7 25
    have a4 : w / 33554432 % 128 = w / 33554432 := by omega
    rw [a1, a2, a3, a4, or_gap 12 3 (w % 128) (w / 4096 % 8 * 4096) (by omega) (by omega) (by omega)]
    have p : w % 128 + w / 4096 % 8 * 4096 < 33554432 := by omega
    have q : w / 33554432 < 128 := by omega
    generalize w % 128 + w / 4096 % 8 * 4096 = x at *
    generalize w / 33554432 = y at *
    rw [or_gap 25 7 x (y * 33554432) (by omega) (by omega) (by omega)]
  rw [e2] at e
  exact e
theorem and_all (w : Nat) (h : w < 4294967296) : bits .and .i64 (w : Int) 4294967295 = (w : Int) := by
  have := i64_and_mask (w : Int) 32 (by decide)
  have e : bits .and .i64 (w : Int) 4294967295 = (w : Int) % 4294967296 := this
  rw [e]
  omega

/-- Is a word of a shape? -/
def hitI (f c g h w : Int) : Prop :=
  if f = 1 ∨ f = 2 then w % 128 = c
  else if f = 3 ∨ f = 4 ∨ f = 5 then w % 128 = c ∧ w / 4096 % 8 = g
  else if f = 6 then w % 128 = c ∧ w / 4096 % 8 = g ∧ w / 67108864 = h / 2
  else if f = 7 ∨ f = 8 then w % 128 = c ∧ w / 4096 % 8 = g ∧ w / 33554432 = h
  else w = c + g * 4096 + h * 1048576
end Go.Proofs.YtdbngfeelfgbeaaGreatDoor

namespace Go.Proofs.YtdbngfeelfgbeaaGreatDoor
open Go.RowKit
set_option linter.unusedVariables false

theorem low3 (w : World) : Calls Tryz.prog 55 #[.int .i64 3] w fun e w' => e = .returned (.int .i64 7) ∧ w' = w := by
  go_enter Tryz.func55, Tryz.ntmps55
  go_wp2
  go_ret
  exact ⟨rfl, rfl⟩
theorem low32 (w : World) : Calls Tryz.prog 55 #[.int .i64 32] w fun e w' => e = .returned (.int .i64 4294967295) ∧ w' = w := by
  go_enter Tryz.func55, Tryz.ntmps55
  go_wp2
  go_ret
  exact ⟨rfl, rfl⟩
/-- The fixed bits of a form. -/
def fixB (f : Int) : Int := if f = 1 then 127 else if f = 2 then 127 else if f = 3 then 28799 else if f = 4 then 28799 else if f = 5 then 28799 else if f = 6 then 4227887231 else if f = 7 then 4261441663 else if f = 8 then 4261441663 else 4294967295
end Go.Proofs.YtdbngfeelfgbeaaGreatDoor

namespace Go.Proofs.YtdbngfeelfgbeaaGreatDoor
set_option linter.unusedVariables false

/-- What a word's fields are, if it is of a form. -/
def tkRd (f w : Int) : Int := if f = 4 ∨ f = 5 ∨ f = 9 then 0 else w / 128 % 32
def tkR1 (f w : Int) : Int := if f = 1 ∨ f = 2 ∨ f = 9 then 0 else w / 32768 % 32
def tkR2 (f w : Int) : Int := if f = 4 ∨ f = 5 ∨ f = 8 then w / 1048576 % 32 else 0

theorem regB_mod (x : Int) : regB (x % 32) = true := by
  unfold regB
  exact decide_eq_true (by omega)

theorem right_taken (f w : Int) (h0 : 1 ≤ f) (h1 : f ≤ 9) : rightF f (tkRd f w) (tkR1 f w) (tkR2 f w) (takeF f w) = true := by
  have hk : okB f (takeF f w) = true := by
    apply okB_t (by omega) (by omega)
    rcases (show f = 1 ∨ f = 2 ∨ f = 3 ∨ f = 4 ∨ f = 5 ∨ f = 6 ∨ f = 7 ∨ f = 8 ∨ f = 9 by omega) with rfl | rfl | rfl | rfl | rfl | rfl | rfl | rfl | rfl
    · show -2147483648 ≤ sgn (w / 4096 % 1048576 * 4096) 32 ∧ sgn (w / 4096 % 1048576 * 4096) 32 ≤ 2147479552 ∧ sgn (w / 4096 % 1048576 * 4096) 32 % 4096 = 0
      rw [sgn_num _ 32 2147483648 4294967296 (by decide) (by decide)]
      omega
    · show -1048576 ≤ sgn (w / 4096 % 256 * 4096 + w / 1048576 % 2 * 2048 + w / 2097152 % 1024 * 2 + w / 2147483648 % 2 * 1048576) 21 ∧ sgn (w / 4096 % 256 * 4096 + w / 1048576 % 2 * 2048 + w / 2097152 % 1024 * 2 + w / 2147483648 % 2 * 1048576) 21 ≤ 1048574 ∧ sgn (w / 4096 % 256 * 4096 + w / 1048576 % 2 * 2048 + w / 2097152 % 1024 * 2 + w / 2147483648 % 2 * 1048576) 21 % 2 = 0
      rw [sgn_num _ 21 1048576 2097152 (by decide) (by decide)]
      generalize w / 4096 % 256 = x
      generalize w / 1048576 % 2 = y
      generalize w / 2097152 % 1024 = z
      generalize w / 2147483648 % 2 = u
      omega
    · show -2048 ≤ sgn (w / 1048576 % 4096) 12 ∧ sgn (w / 1048576 % 4096) 12 ≤ 2047
      rw [sgn_num _ 12 2048 4096 (by decide) (by decide)]
      omega
    · show -4096 ≤ sgn (w / 128 % 2 * 2048 + w / 256 % 16 * 2 + w / 33554432 % 64 * 32 + w / 2147483648 % 2 * 4096) 13 ∧ sgn (w / 128 % 2 * 2048 + w / 256 % 16 * 2 + w / 33554432 % 64 * 32 + w / 2147483648 % 2 * 4096) 13 ≤ 4094 ∧ sgn (w / 128 % 2 * 2048 + w / 256 % 16 * 2 + w / 33554432 % 64 * 32 + w / 2147483648 % 2 * 4096) 13 % 2 = 0
      rw [sgn_num _ 13 4096 8192 (by decide) (by decide)]
      generalize w / 128 % 2 = x
      generalize w / 256 % 16 = y
      generalize w / 33554432 % 64 = z
      generalize w / 2147483648 % 2 = u
      omega
    · show -2048 ≤ sgn (w / 128 % 32 + w / 33554432 % 128 * 32) 12 ∧ sgn (w / 128 % 32 + w / 33554432 % 128 * 32) 12 ≤ 2047
      rw [sgn_num _ 12 2048 4096 (by decide) (by decide)]
      omega
    · show 0 ≤ w / 1048576 % 64 ∧ w / 1048576 % 64 ≤ 63
      omega
    · show 0 ≤ w / 1048576 % 32 ∧ w / 1048576 % 32 ≤ 31
      omega
    · rfl
    · rfl
  rcases (show f = 1 ∨ f = 2 ∨ f = 3 ∨ f = 4 ∨ f = 5 ∨ f = 6 ∨ f = 7 ∨ f = 8 ∨ f = 9 by omega) with rfl | rfl | rfl | rfl | rfl | rfl | rfl | rfl | rfl
  · show (regB (w / 128 % 32) && (0 : Int) == 0 && (0 : Int) == 0 && okB 1 (takeF 1 w)) = true
    rw [regB_mod, hk]; rfl
  · show (regB (w / 128 % 32) && (0 : Int) == 0 && (0 : Int) == 0 && okB 2 (takeF 2 w)) = true
    rw [regB_mod, hk]; rfl
  · show (regB (w / 128 % 32) && regB (w / 32768 % 32) && (0 : Int) == 0 && okB 3 (takeF 3 w)) = true
    rw [regB_mod, regB_mod, hk]; rfl
  · show ((0 : Int) == 0 && regB (w / 32768 % 32) && regB (w / 1048576 % 32) && okB 4 (takeF 4 w)) = true
    rw [regB_mod, regB_mod, hk]; rfl
  · show ((0 : Int) == 0 && regB (w / 32768 % 32) && regB (w / 1048576 % 32) && okB 5 (takeF 5 w)) = true
    rw [regB_mod, regB_mod, hk]; rfl
  · show (regB (w / 128 % 32) && regB (w / 32768 % 32) && (0 : Int) == 0 && okB 6 (takeF 6 w)) = true
    rw [regB_mod, regB_mod, hk]; rfl
  · show (regB (w / 128 % 32) && regB (w / 32768 % 32) && (0 : Int) == 0 && okB 7 (takeF 7 w)) = true
    rw [regB_mod, regB_mod, hk]; rfl
  · show (regB (w / 128 % 32) && regB (w / 32768 % 32) && regB (w / 1048576 % 32) && (0 : Int) == 0) = true
    rw [regB_mod, regB_mod, regB_mod]; rfl
  · rfl
end Go.Proofs.YtdbngfeelfgbeaaGreatDoor

namespace Go.Proofs.YtdbngfeelfgbeaaGreatDoor

theorem dd (a : Int) {b : Int} (c : Int) (hb : 0 ≤ b) : a / b / c = a / (b * c) := by
  rw [Int.ediv_ediv, if_neg (fun h => absurd h.1 (by omega)), Int.sub_zero]
theorem div_up (a lo : Int) (k j : Nat) (h0 : 0 ≤ lo) (h1 : lo < 2 ^ k) : (a * 2 ^ k + lo) / 2 ^ (k + j) = a / 2 ^ j := by
  rw [Int.pow_add, ← dd _ _ (Int.le_of_lt (pow_pos k)), Int.add_comm, Int.add_mul_ediv_right _ _ (Int.ne_of_gt (pow_pos k)), Int.ediv_eq_zero_of_lt h0 h1, Int.zero_add]
theorem bit_up (a lo : Int) (k j : Nat) (h0 : 0 ≤ lo) (h1 : lo < 2 ^ k) : bitT (a * 2 ^ k + lo) (k + j) = bitT a j := by
  unfold bitT
  rw [div_up a lo k j h0 h1]
theorem bit_mod (v : Int) (n i : Nat) (h : i < n) : bitT (v % 2 ^ n) i = bitT v i := by
  have e : v = v % 2 ^ n + (v / 2 ^ n) * 2 ^ n := by have := Int.emod_add_mul_ediv v (2 ^ n); rw [Int.mul_comm]; exact this.symm
  have := bit_far (v % 2 ^ n) (v / 2 ^ n) n i h
  rw [← e] at this
  exact this.symm

/-- The word with the number laid at a free place. -/
def putT (word v : Int) (low count : Nat) : Int := word + v % 2 ^ count * 2 ^ low

theorem put_bit (word v : Int) (low count i : Nat) (_hw : 0 ≤ word) (hz : word / 2 ^ low % 2 ^ count = 0) :
    bitT (putT word v low count) i = if low ≤ i ∧ i < low + count then bitT v (i - low) else bitT word i := by
  obtain ⟨hi, lo, hlo0, hlo1, e⟩ : ∃ hi lo : Int, 0 ≤ lo ∧ lo < 2 ^ low ∧ word = hi * 2 ^ (low + count) + lo := by
    refine ⟨word / 2 ^ (low + count), word % 2 ^ low, Int.emod_nonneg _ (Int.ne_of_gt (pow_pos low)), Int.emod_lt_of_pos _ (pow_pos low), ?_⟩
    have h1 := Int.emod_add_mul_ediv word (2 ^ low)
    have h2 := Int.emod_add_mul_ediv (word / 2 ^ low) (2 ^ count)
    rw [hz, dd _ _ (Int.le_of_lt (pow_pos low)), ← Int.pow_add] at h2
    have h3 : word / 2 ^ (low + count) * 2 ^ (low + count) = 2 ^ low * (word / 2 ^ low) := by
      rw [← h2, Int.pow_add]
      rw [Int.zero_add, Int.mul_comm, Int.mul_assoc]
    omega
  have e2 : putT word v low count = (hi * 2 ^ count + v % 2 ^ count) * 2 ^ low + lo := by
    unfold putT
    rw [e, Int.add_mul, Int.pow_add]
    have : hi * (2 ^ low * 2 ^ count) = hi * 2 ^ count * 2 ^ low := by simp only [Int.mul_comm, Int.mul_left_comm]
    omega
  have hp := pow_pos count
  by_cases h1 : i < low
  · rw [if_neg (by omega), e2, e]
    have a1 := bit_far lo (hi * 2 ^ count + v % 2 ^ count) low i h1
    have a2 := bit_far lo hi (low + count) i (by omega)
    rw [Int.add_comm] at a1 a2
    rw [a1, a2]
  obtain ⟨j, rfl⟩ : ∃ j, i = low + j := ⟨i - low, by omega⟩
  rw [e2, bit_up _ lo low j hlo0 hlo1]
  by_cases h2 : j < count
  · rw [if_pos (by omega), Nat.add_sub_cancel_left]
    have a1 := bit_far (v % 2 ^ count) hi count j h2
    rw [Int.add_comm] at a1
    rw [a1, bit_mod v count j h2]
  · rw [if_neg (by omega), e]
    obtain ⟨m, rfl⟩ : ∃ m, j = count + m := ⟨j - count, by omega⟩
    rw [bit_up hi (v % 2 ^ count) count m (Int.emod_nonneg _ (Int.ne_of_gt hp)) (Int.emod_lt_of_pos _ hp)]
    have hl2 : lo < 2 ^ (low + count) := by
      have : (2 : Int) ^ low ≤ 2 ^ (low + count) := pow_le (by omega)
      omega
    rw [show low + (count + m) = (low + count) + m by omega, bit_up hi lo (low + count) m hlo0 hl2]

theorem int_half (s : Int) (k : Nat) : s / 2 ^ k = 2 * (s / 2 ^ (k + 1)) + bitT s k := by
  unfold bitT
  rw [Int.pow_succ, ← dd _ _ (Int.le_of_lt (pow_pos k))]
  omega

theorem put_bd (word v : Int) (low count : Nat) (hw : 0 ≤ word) (hw2 : word < 2 ^ 32) (h : low + count ≤ 32) (hz : word / 2 ^ low % 2 ^ count = 0) : 0 ≤ putT word v low count ∧ putT word v low count < 2 ^ 32 := by
  have h0 : 0 ≤ v % 2 ^ count := Int.emod_nonneg _ (Int.ne_of_gt (pow_pos count))
  have h00 : 0 ≤ v % 2 ^ count * 2 ^ low := Int.mul_nonneg h0 (Int.le_of_lt (pow_pos low))
  refine ⟨by unfold putT; omega, ?_⟩
  -- all bits from 32 on are 0
  have hd : putT word v low count / 2 ^ 32 = 0 := by
    have hb : ∀ m, bitT (putT word v low count) (32 + m) = bitT word (32 + m) := fun m => by
      rw [put_bit word v low count (32 + m) hw hz, if_neg (by omega)]
    have h1 : v % 2 ^ count < 2 ^ count := Int.emod_lt_of_pos _ (pow_pos count)
    obtain ⟨d, hd⟩ : ∃ d, 32 = low + count + d := ⟨32 - low - count, by omega⟩
    obtain ⟨hi, lo, hlo0, hlo1, e⟩ : ∃ hi lo : Int, 0 ≤ lo ∧ lo < 2 ^ low ∧ word = hi * 2 ^ (low + count) + lo := by
      refine ⟨word / 2 ^ (low + count), word % 2 ^ low, Int.emod_nonneg _ (Int.ne_of_gt (pow_pos low)), Int.emod_lt_of_pos _ (pow_pos low), ?_⟩
      have h1 := Int.emod_add_mul_ediv word (2 ^ low)
      have h2 := Int.emod_add_mul_ediv (word / 2 ^ low) (2 ^ count)
      rw [hz, dd _ _ (Int.le_of_lt (pow_pos low)), ← Int.pow_add] at h2
      have h3 : word / 2 ^ (low + count) * 2 ^ (low + count) = 2 ^ low * (word / 2 ^ low) := by
        rw [← h2, Int.pow_add]
        rw [Int.zero_add, Int.mul_comm, Int.mul_assoc]
      omega
    have e2 : putT word v low count = (hi * 2 ^ count + v % 2 ^ count) * 2 ^ low + lo := by
      unfold putT
      rw [e, Int.add_mul, Int.pow_add]
      have : hi * (2 ^ low * 2 ^ count) = hi * 2 ^ count * 2 ^ low := by simp only [Int.mul_comm, Int.mul_left_comm]
      omega
    have hl2 : lo < 2 ^ (low + count) := by
      have : (2 : Int) ^ low ≤ 2 ^ (low + count) := pow_le (by omega)
      omega
    have w0 : word / 2 ^ 32 = 0 := Int.ediv_eq_zero_of_lt hw hw2
    rw [hd] at w0 ⊢
    rw [e, div_up hi lo (low + count) d hlo0 hl2] at w0
    rw [e2, show low + count + d = low + (count + d) by omega, div_up _ lo low (count + d) hlo0 hlo1, div_up hi _ count d h0 h1]
    exact w0
  have hm := Int.emod_add_mul_ediv (putT word v low count) (2 ^ 32)
  rw [hd] at hm
  have hl := Int.emod_lt_of_pos (putT word v low count) (pow_pos 32)
  omega
end Go.Proofs.YtdbngfeelfgbeaaGreatDoor

namespace Go.Proofs.YtdbngfeelfgbeaaGreatDoor
set_option linter.unusedVariables false

theorem mod_step (im : Int) (k : Nat) (A B : Int) (hA : A = 2 ^ k) (hB : B = 2 ^ (k + 1)) : im % B = im % A + bitT im k * A := by
  subst hA hB
  unfold bitT
  have h1 := Int.emod_add_mul_ediv im (2 ^ k)
  have h2 := Int.emod_add_mul_ediv (im / 2 ^ k) 2
  have h3 := Int.emod_add_mul_ediv im (2 ^ (k + 1))
  have h4 : im / 2 ^ (k + 1) = im / 2 ^ k / 2 := by rw [Int.pow_succ, dd _ _ (Int.le_of_lt (pow_pos k))]
  rw [h4, Int.pow_succ] at h3
  have h5 : 2 ^ k * 2 * (im / 2 ^ k / 2) = (im / 2 ^ k - im / 2 ^ k % 2) * 2 ^ k := by
    rw [show im / 2 ^ k - im / 2 ^ k % 2 = 2 * (im / 2 ^ k / 2) by omega]
    simp only [Int.mul_comm, Int.mul_left_comm]
  have h6 : 2 ^ k * (im / 2 ^ k) = im / 2 ^ k * 2 ^ k := Int.mul_comm _ _
  rw [Int.sub_mul] at h5
  rw [Int.pow_succ]
  omega
theorem stepJ1 (im base : Int) (b0 : 0 ≤ base) (b1 : base < 4096) : 0 ≤ layF 2 (im % 2) ∧ base + layF 2 (im % 2) < 4294967296 ∧ (base + layF 2 (im % 2)) / 2097152 % 2 = 0 ∧
    layF 2 (im % 4) = layF 2 (im % 2) + bitT im 1 % 2 * 2097152 := by
  have e := mod_step im 1 2 4 (by decide) (by decide)
  have hb := bitT_bd im 1
  have hx : 0 ≤ im % 2 ∧ im % 2 < 2 := by omega
  rw [e]
  generalize im % 2 = x at *
  generalize bitT im 1 = b at *
  have l1 : layF 2 x = x / 4096 % 256 * 4096 + x / 2048 % 2 * 1048576 + x / 2 % 1024 * 2097152 + x / 1048576 % 2 * 2147483648 := rfl
  have l2 : layF 2 (x + b * 2) = (x + b * 2) / 4096 % 256 * 4096 + (x + b * 2) / 2048 % 2 * 1048576 + (x + b * 2) / 2 % 1024 * 2097152 + (x + b * 2) / 1048576 % 2 * 2147483648 := rfl
  rw [l1, l2]
  obtain ⟨x0, x1⟩ := hx
  rcases hb with rfl | rfl
  · have a0 : (x + 0 * 2) / 4096 % 256 = 0 := by omega
    have c0 : x / 4096 % 256 = 0 := by omega
    rw [a0, c0]
    clear a0 c0
    have a1 : (x + 0 * 2) / 2048 % 2 = 0 := by omega
    have c1 : x / 2048 % 2 = 0 := by omega
    rw [a1, c1]
    clear a1 c1
    have a2 : (x + 0 * 2) / 2 % 1024 = 0 := by omega
    have c2 : x / 2 % 1024 = 0 := by omega
    rw [a2, c2]
    clear a2 c2
    have a3 : (x + 0 * 2) / 1048576 % 2 = 0 := by omega
    have c3 : x / 1048576 % 2 = 0 := by omega
    rw [a3, c3]
    clear a3 c3
    clear x0 x1
    exact ⟨by omega, by omega, by omega, by omega⟩
  · have a0 : (x + 1 * 2) / 4096 % 256 = 0 := by omega
    have c0 : x / 4096 % 256 = 0 := by omega
    rw [a0, c0]
    clear a0 c0
    have a1 : (x + 1 * 2) / 2048 % 2 = 0 := by omega
    have c1 : x / 2048 % 2 = 0 := by omega
    rw [a1, c1]
    clear a1 c1
    have a2 : (x + 1 * 2) / 2 % 1024 = 1 := by omega
    have c2 : x / 2 % 1024 = 0 := by omega
    rw [a2, c2]
    clear a2 c2
    have a3 : (x + 1 * 2) / 1048576 % 2 = 0 := by omega
    have c3 : x / 1048576 % 2 = 0 := by omega
    rw [a3, c3]
    clear a3 c3
    clear x0 x1
    exact ⟨by omega, by omega, by omega, by omega⟩
theorem stepJ2 (im base : Int) (b0 : 0 ≤ base) (b1 : base < 4096) : 0 ≤ layF 2 (im % 4) ∧ base + layF 2 (im % 4) < 4294967296 ∧ (base + layF 2 (im % 4)) / 4194304 % 2 = 0 ∧
    layF 2 (im % 8) = layF 2 (im % 4) + bitT im 2 % 2 * 4194304 := by
  have e := mod_step im 2 4 8 (by decide) (by decide)
  have hb := bitT_bd im 2
  have hx : 0 ≤ im % 4 ∧ im % 4 < 4 := by omega
  rw [e]
  generalize im % 4 = x at *
  generalize bitT im 2 = b at *
  have l1 : layF 2 x = x / 4096 % 256 * 4096 + x / 2048 % 2 * 1048576 + x / 2 % 1024 * 2097152 + x / 1048576 % 2 * 2147483648 := rfl
  have l2 : layF 2 (x + b * 4) = (x + b * 4) / 4096 % 256 * 4096 + (x + b * 4) / 2048 % 2 * 1048576 + (x + b * 4) / 2 % 1024 * 2097152 + (x + b * 4) / 1048576 % 2 * 2147483648 := rfl
  rw [l1, l2]
  obtain ⟨x0, x1⟩ := hx
  rcases hb with rfl | rfl
  · have a0 : (x + 0 * 4) / 4096 % 256 = 0 := by omega
    have c0 : x / 4096 % 256 = 0 := by omega
    rw [a0, c0]
    clear a0 c0
    have a1 : (x + 0 * 4) / 2048 % 2 = 0 := by omega
    have c1 : x / 2048 % 2 = 0 := by omega
    rw [a1, c1]
    clear a1 c1
    have a2 : (x + 0 * 4) / 2 % 1024 = x / 2 % 1024 + 0 := by omega
    have c2 : 0 ≤ x / 2 % 1024 ∧ x / 2 % 1024 < 2 := by omega
    rw [a2]
    clear a2
    generalize x / 2 % 1024 = y2 at *
    have a3 : (x + 0 * 4) / 1048576 % 2 = 0 := by omega
    have c3 : x / 1048576 % 2 = 0 := by omega
    rw [a3, c3]
    clear a3 c3
    clear x0 x1
    exact ⟨by omega, by omega, by omega, by omega⟩
  · have a0 : (x + 1 * 4) / 4096 % 256 = 0 := by omega
    have c0 : x / 4096 % 256 = 0 := by omega
    rw [a0, c0]
    clear a0 c0
    have a1 : (x + 1 * 4) / 2048 % 2 = 0 := by omega
    have c1 : x / 2048 % 2 = 0 := by omega
    rw [a1, c1]
    clear a1 c1
    have a2 : (x + 1 * 4) / 2 % 1024 = x / 2 % 1024 + 2 := by omega
    have c2 : 0 ≤ x / 2 % 1024 ∧ x / 2 % 1024 < 2 := by omega
    rw [a2]
    clear a2
    generalize x / 2 % 1024 = y2 at *
    have a3 : (x + 1 * 4) / 1048576 % 2 = 0 := by omega
    have c3 : x / 1048576 % 2 = 0 := by omega
    rw [a3, c3]
    clear a3 c3
    clear x0 x1
    exact ⟨by omega, by omega, by omega, by omega⟩
theorem stepJ3 (im base : Int) (b0 : 0 ≤ base) (b1 : base < 4096) : 0 ≤ layF 2 (im % 8) ∧ base + layF 2 (im % 8) < 4294967296 ∧ (base + layF 2 (im % 8)) / 8388608 % 2 = 0 ∧
    layF 2 (im % 16) = layF 2 (im % 8) + bitT im 3 % 2 * 8388608 := by
  have e := mod_step im 3 8 16 (by decide) (by decide)
  have hb := bitT_bd im 3
  have hx : 0 ≤ im % 8 ∧ im % 8 < 8 := by omega
  rw [e]
  generalize im % 8 = x at *
  generalize bitT im 3 = b at *
  have l1 : layF 2 x = x / 4096 % 256 * 4096 + x / 2048 % 2 * 1048576 + x / 2 % 1024 * 2097152 + x / 1048576 % 2 * 2147483648 := rfl
  have l2 : layF 2 (x + b * 8) = (x + b * 8) / 4096 % 256 * 4096 + (x + b * 8) / 2048 % 2 * 1048576 + (x + b * 8) / 2 % 1024 * 2097152 + (x + b * 8) / 1048576 % 2 * 2147483648 := rfl
  rw [l1, l2]
  obtain ⟨x0, x1⟩ := hx
  rcases hb with rfl | rfl
  · have a0 : (x + 0 * 8) / 4096 % 256 = 0 := by omega
    have c0 : x / 4096 % 256 = 0 := by omega
    rw [a0, c0]
    clear a0 c0
    have a1 : (x + 0 * 8) / 2048 % 2 = 0 := by omega
    have c1 : x / 2048 % 2 = 0 := by omega
    rw [a1, c1]
    clear a1 c1
    have a2 : (x + 0 * 8) / 2 % 1024 = x / 2 % 1024 + 0 := by omega
    have c2 : 0 ≤ x / 2 % 1024 ∧ x / 2 % 1024 < 4 := by omega
    rw [a2]
    clear a2
    generalize x / 2 % 1024 = y2 at *
    have a3 : (x + 0 * 8) / 1048576 % 2 = 0 := by omega
    have c3 : x / 1048576 % 2 = 0 := by omega
    rw [a3, c3]
    clear a3 c3
    clear x0 x1
    exact ⟨by omega, by omega, by omega, by omega⟩
  · have a0 : (x + 1 * 8) / 4096 % 256 = 0 := by omega
    have c0 : x / 4096 % 256 = 0 := by omega
    rw [a0, c0]
    clear a0 c0
    have a1 : (x + 1 * 8) / 2048 % 2 = 0 := by omega
    have c1 : x / 2048 % 2 = 0 := by omega
    rw [a1, c1]
    clear a1 c1
    have a2 : (x + 1 * 8) / 2 % 1024 = x / 2 % 1024 + 4 := by omega
    have c2 : 0 ≤ x / 2 % 1024 ∧ x / 2 % 1024 < 4 := by omega
    rw [a2]
    clear a2
    generalize x / 2 % 1024 = y2 at *
    have a3 : (x + 1 * 8) / 1048576 % 2 = 0 := by omega
    have c3 : x / 1048576 % 2 = 0 := by omega
    rw [a3, c3]
    clear a3 c3
    clear x0 x1
    exact ⟨by omega, by omega, by omega, by omega⟩
theorem stepJ4 (im base : Int) (b0 : 0 ≤ base) (b1 : base < 4096) : 0 ≤ layF 2 (im % 16) ∧ base + layF 2 (im % 16) < 4294967296 ∧ (base + layF 2 (im % 16)) / 16777216 % 2 = 0 ∧
    layF 2 (im % 32) = layF 2 (im % 16) + bitT im 4 % 2 * 16777216 := by
  have e := mod_step im 4 16 32 (by decide) (by decide)
  have hb := bitT_bd im 4
  have hx : 0 ≤ im % 16 ∧ im % 16 < 16 := by omega
  rw [e]
  generalize im % 16 = x at *
  generalize bitT im 4 = b at *
  have l1 : layF 2 x = x / 4096 % 256 * 4096 + x / 2048 % 2 * 1048576 + x / 2 % 1024 * 2097152 + x / 1048576 % 2 * 2147483648 := rfl
  have l2 : layF 2 (x + b * 16) = (x + b * 16) / 4096 % 256 * 4096 + (x + b * 16) / 2048 % 2 * 1048576 + (x + b * 16) / 2 % 1024 * 2097152 + (x + b * 16) / 1048576 % 2 * 2147483648 := rfl
  rw [l1, l2]
  obtain ⟨x0, x1⟩ := hx
  rcases hb with rfl | rfl
  · have a0 : (x + 0 * 16) / 4096 % 256 = 0 := by omega
    have c0 : x / 4096 % 256 = 0 := by omega
    rw [a0, c0]
    clear a0 c0
    have a1 : (x + 0 * 16) / 2048 % 2 = 0 := by omega
    have c1 : x / 2048 % 2 = 0 := by omega
    rw [a1, c1]
    clear a1 c1
    have a2 : (x + 0 * 16) / 2 % 1024 = x / 2 % 1024 + 0 := by omega
    have c2 : 0 ≤ x / 2 % 1024 ∧ x / 2 % 1024 < 8 := by omega
    rw [a2]
    clear a2
    generalize x / 2 % 1024 = y2 at *
    have a3 : (x + 0 * 16) / 1048576 % 2 = 0 := by omega
    have c3 : x / 1048576 % 2 = 0 := by omega
    rw [a3, c3]
    clear a3 c3
    clear x0 x1
    exact ⟨by omega, by omega, by omega, by omega⟩
  · have a0 : (x + 1 * 16) / 4096 % 256 = 0 := by omega
    have c0 : x / 4096 % 256 = 0 := by omega
    rw [a0, c0]
    clear a0 c0
    have a1 : (x + 1 * 16) / 2048 % 2 = 0 := by omega
    have c1 : x / 2048 % 2 = 0 := by omega
    rw [a1, c1]
    clear a1 c1
    have a2 : (x + 1 * 16) / 2 % 1024 = x / 2 % 1024 + 8 := by omega
    have c2 : 0 ≤ x / 2 % 1024 ∧ x / 2 % 1024 < 8 := by omega
    rw [a2]
    clear a2
    generalize x / 2 % 1024 = y2 at *
    have a3 : (x + 1 * 16) / 1048576 % 2 = 0 := by omega
    have c3 : x / 1048576 % 2 = 0 := by omega
    rw [a3, c3]
    clear a3 c3
    clear x0 x1
    exact ⟨by omega, by omega, by omega, by omega⟩
theorem stepJ5 (im base : Int) (b0 : 0 ≤ base) (b1 : base < 4096) : 0 ≤ layF 2 (im % 32) ∧ base + layF 2 (im % 32) < 4294967296 ∧ (base + layF 2 (im % 32)) / 33554432 % 2 = 0 ∧
    layF 2 (im % 64) = layF 2 (im % 32) + bitT im 5 % 2 * 33554432 := by
  have e := mod_step im 5 32 64 (by decide) (by decide)
  have hb := bitT_bd im 5
  have hx : 0 ≤ im % 32 ∧ im % 32 < 32 := by omega
  rw [e]
  generalize im % 32 = x at *
  generalize bitT im 5 = b at *
  have l1 : layF 2 x = x / 4096 % 256 * 4096 + x / 2048 % 2 * 1048576 + x / 2 % 1024 * 2097152 + x / 1048576 % 2 * 2147483648 := rfl
  have l2 : layF 2 (x + b * 32) = (x + b * 32) / 4096 % 256 * 4096 + (x + b * 32) / 2048 % 2 * 1048576 + (x + b * 32) / 2 % 1024 * 2097152 + (x + b * 32) / 1048576 % 2 * 2147483648 := rfl
  rw [l1, l2]
  obtain ⟨x0, x1⟩ := hx
  rcases hb with rfl | rfl
  · have a0 : (x + 0 * 32) / 4096 % 256 = 0 := by omega
    have c0 : x / 4096 % 256 = 0 := by omega
    rw [a0, c0]
    clear a0 c0
    have a1 : (x + 0 * 32) / 2048 % 2 = 0 := by omega
    have c1 : x / 2048 % 2 = 0 := by omega
    rw [a1, c1]
    clear a1 c1
    have a2 : (x + 0 * 32) / 2 % 1024 = x / 2 % 1024 + 0 := by omega
    have c2 : 0 ≤ x / 2 % 1024 ∧ x / 2 % 1024 < 16 := by omega
    rw [a2]
    clear a2
    generalize x / 2 % 1024 = y2 at *
    have a3 : (x + 0 * 32) / 1048576 % 2 = 0 := by omega
    have c3 : x / 1048576 % 2 = 0 := by omega
    rw [a3, c3]
    clear a3 c3
    clear x0 x1
    exact ⟨by omega, by omega, by omega, by omega⟩
  · have a0 : (x + 1 * 32) / 4096 % 256 = 0 := by omega
    have c0 : x / 4096 % 256 = 0 := by omega
    rw [a0, c0]
    clear a0 c0
    have a1 : (x + 1 * 32) / 2048 % 2 = 0 := by omega
    have c1 : x / 2048 % 2 = 0 := by omega
    rw [a1, c1]
    clear a1 c1
    have a2 : (x + 1 * 32) / 2 % 1024 = x / 2 % 1024 + 16 := by omega
    have c2 : 0 ≤ x / 2 % 1024 ∧ x / 2 % 1024 < 16 := by omega
    rw [a2]
    clear a2
    generalize x / 2 % 1024 = y2 at *
    have a3 : (x + 1 * 32) / 1048576 % 2 = 0 := by omega
    have c3 : x / 1048576 % 2 = 0 := by omega
    rw [a3, c3]
    clear a3 c3
    clear x0 x1
    exact ⟨by omega, by omega, by omega, by omega⟩
theorem stepJ6 (im base : Int) (b0 : 0 ≤ base) (b1 : base < 4096) : 0 ≤ layF 2 (im % 64) ∧ base + layF 2 (im % 64) < 4294967296 ∧ (base + layF 2 (im % 64)) / 67108864 % 2 = 0 ∧
    layF 2 (im % 128) = layF 2 (im % 64) + bitT im 6 % 2 * 67108864 := by
  have e := mod_step im 6 64 128 (by decide) (by decide)
  have hb := bitT_bd im 6
  have hx : 0 ≤ im % 64 ∧ im % 64 < 64 := by omega
  rw [e]
  generalize im % 64 = x at *
  generalize bitT im 6 = b at *
  have l1 : layF 2 x = x / 4096 % 256 * 4096 + x / 2048 % 2 * 1048576 + x / 2 % 1024 * 2097152 + x / 1048576 % 2 * 2147483648 := rfl
  have l2 : layF 2 (x + b * 64) = (x + b * 64) / 4096 % 256 * 4096 + (x + b * 64) / 2048 % 2 * 1048576 + (x + b * 64) / 2 % 1024 * 2097152 + (x + b * 64) / 1048576 % 2 * 2147483648 := rfl
  rw [l1, l2]
  obtain ⟨x0, x1⟩ := hx
  rcases hb with rfl | rfl
  · have a0 : (x + 0 * 64) / 4096 % 256 = 0 := by omega
    have c0 : x / 4096 % 256 = 0 := by omega
    rw [a0, c0]
    clear a0 c0
    have a1 : (x + 0 * 64) / 2048 % 2 = 0 := by omega
    have c1 : x / 2048 % 2 = 0 := by omega
    rw [a1, c1]
    clear a1 c1
    have a2 : (x + 0 * 64) / 2 % 1024 = x / 2 % 1024 + 0 := by omega
    have c2 : 0 ≤ x / 2 % 1024 ∧ x / 2 % 1024 < 32 := by omega
    rw [a2]
    clear a2
    generalize x / 2 % 1024 = y2 at *
    have a3 : (x + 0 * 64) / 1048576 % 2 = 0 := by omega
    have c3 : x / 1048576 % 2 = 0 := by omega
    rw [a3, c3]
    clear a3 c3
    clear x0 x1
    exact ⟨by omega, by omega, by omega, by omega⟩
  · have a0 : (x + 1 * 64) / 4096 % 256 = 0 := by omega
    have c0 : x / 4096 % 256 = 0 := by omega
    rw [a0, c0]
    clear a0 c0
    have a1 : (x + 1 * 64) / 2048 % 2 = 0 := by omega
    have c1 : x / 2048 % 2 = 0 := by omega
    rw [a1, c1]
    clear a1 c1
    have a2 : (x + 1 * 64) / 2 % 1024 = x / 2 % 1024 + 32 := by omega
    have c2 : 0 ≤ x / 2 % 1024 ∧ x / 2 % 1024 < 32 := by omega
    rw [a2]
    clear a2
    generalize x / 2 % 1024 = y2 at *
    have a3 : (x + 1 * 64) / 1048576 % 2 = 0 := by omega
    have c3 : x / 1048576 % 2 = 0 := by omega
    rw [a3, c3]
    clear a3 c3
    clear x0 x1
    exact ⟨by omega, by omega, by omega, by omega⟩
theorem stepJ7 (im base : Int) (b0 : 0 ≤ base) (b1 : base < 4096) : 0 ≤ layF 2 (im % 128) ∧ base + layF 2 (im % 128) < 4294967296 ∧ (base + layF 2 (im % 128)) / 134217728 % 2 = 0 ∧
    layF 2 (im % 256) = layF 2 (im % 128) + bitT im 7 % 2 * 134217728 := by
  have e := mod_step im 7 128 256 (by decide) (by decide)
  have hb := bitT_bd im 7
  have hx : 0 ≤ im % 128 ∧ im % 128 < 128 := by omega
  rw [e]
  generalize im % 128 = x at *
  generalize bitT im 7 = b at *
  have l1 : layF 2 x = x / 4096 % 256 * 4096 + x / 2048 % 2 * 1048576 + x / 2 % 1024 * 2097152 + x / 1048576 % 2 * 2147483648 := rfl
  have l2 : layF 2 (x + b * 128) = (x + b * 128) / 4096 % 256 * 4096 + (x + b * 128) / 2048 % 2 * 1048576 + (x + b * 128) / 2 % 1024 * 2097152 + (x + b * 128) / 1048576 % 2 * 2147483648 := rfl
  rw [l1, l2]
  obtain ⟨x0, x1⟩ := hx
  rcases hb with rfl | rfl
  · have a0 : (x + 0 * 128) / 4096 % 256 = 0 := by omega
    have c0 : x / 4096 % 256 = 0 := by omega
    rw [a0, c0]
    clear a0 c0
    have a1 : (x + 0 * 128) / 2048 % 2 = 0 := by omega
    have c1 : x / 2048 % 2 = 0 := by omega
    rw [a1, c1]
    clear a1 c1
    have a2 : (x + 0 * 128) / 2 % 1024 = x / 2 % 1024 + 0 := by omega
    have c2 : 0 ≤ x / 2 % 1024 ∧ x / 2 % 1024 < 64 := by omega
    rw [a2]
    clear a2
    generalize x / 2 % 1024 = y2 at *
    have a3 : (x + 0 * 128) / 1048576 % 2 = 0 := by omega
    have c3 : x / 1048576 % 2 = 0 := by omega
    rw [a3, c3]
    clear a3 c3
    clear x0 x1
    exact ⟨by omega, by omega, by omega, by omega⟩
  · have a0 : (x + 1 * 128) / 4096 % 256 = 0 := by omega
    have c0 : x / 4096 % 256 = 0 := by omega
    rw [a0, c0]
    clear a0 c0
    have a1 : (x + 1 * 128) / 2048 % 2 = 0 := by omega
    have c1 : x / 2048 % 2 = 0 := by omega
    rw [a1, c1]
    clear a1 c1
    have a2 : (x + 1 * 128) / 2 % 1024 = x / 2 % 1024 + 64 := by omega
    have c2 : 0 ≤ x / 2 % 1024 ∧ x / 2 % 1024 < 64 := by omega
    rw [a2]
    clear a2
    generalize x / 2 % 1024 = y2 at *
    have a3 : (x + 1 * 128) / 1048576 % 2 = 0 := by omega
    have c3 : x / 1048576 % 2 = 0 := by omega
    rw [a3, c3]
    clear a3 c3
    clear x0 x1
    exact ⟨by omega, by omega, by omega, by omega⟩
theorem stepJ8 (im base : Int) (b0 : 0 ≤ base) (b1 : base < 4096) : 0 ≤ layF 2 (im % 256) ∧ base + layF 2 (im % 256) < 4294967296 ∧ (base + layF 2 (im % 256)) / 268435456 % 2 = 0 ∧
    layF 2 (im % 512) = layF 2 (im % 256) + bitT im 8 % 2 * 268435456 := by
  have e := mod_step im 8 256 512 (by decide) (by decide)
  have hb := bitT_bd im 8
  have hx : 0 ≤ im % 256 ∧ im % 256 < 256 := by omega
  rw [e]
  generalize im % 256 = x at *
  generalize bitT im 8 = b at *
  have l1 : layF 2 x = x / 4096 % 256 * 4096 + x / 2048 % 2 * 1048576 + x / 2 % 1024 * 2097152 + x / 1048576 % 2 * 2147483648 := rfl
  have l2 : layF 2 (x + b * 256) = (x + b * 256) / 4096 % 256 * 4096 + (x + b * 256) / 2048 % 2 * 1048576 + (x + b * 256) / 2 % 1024 * 2097152 + (x + b * 256) / 1048576 % 2 * 2147483648 := rfl
  rw [l1, l2]
  obtain ⟨x0, x1⟩ := hx
  rcases hb with rfl | rfl
  · have a0 : (x + 0 * 256) / 4096 % 256 = 0 := by omega
    have c0 : x / 4096 % 256 = 0 := by omega
    rw [a0, c0]
    clear a0 c0
    have a1 : (x + 0 * 256) / 2048 % 2 = 0 := by omega
    have c1 : x / 2048 % 2 = 0 := by omega
    rw [a1, c1]
    clear a1 c1
    have a2 : (x + 0 * 256) / 2 % 1024 = x / 2 % 1024 + 0 := by omega
    have c2 : 0 ≤ x / 2 % 1024 ∧ x / 2 % 1024 < 128 := by omega
    rw [a2]
    clear a2
    generalize x / 2 % 1024 = y2 at *
    have a3 : (x + 0 * 256) / 1048576 % 2 = 0 := by omega
    have c3 : x / 1048576 % 2 = 0 := by omega
    rw [a3, c3]
    clear a3 c3
    clear x0 x1
    exact ⟨by omega, by omega, by omega, by omega⟩
  · have a0 : (x + 1 * 256) / 4096 % 256 = 0 := by omega
    have c0 : x / 4096 % 256 = 0 := by omega
    rw [a0, c0]
    clear a0 c0
    have a1 : (x + 1 * 256) / 2048 % 2 = 0 := by omega
    have c1 : x / 2048 % 2 = 0 := by omega
    rw [a1, c1]
    clear a1 c1
    have a2 : (x + 1 * 256) / 2 % 1024 = x / 2 % 1024 + 128 := by omega
    have c2 : 0 ≤ x / 2 % 1024 ∧ x / 2 % 1024 < 128 := by omega
    rw [a2]
    clear a2
    generalize x / 2 % 1024 = y2 at *
    have a3 : (x + 1 * 256) / 1048576 % 2 = 0 := by omega
    have c3 : x / 1048576 % 2 = 0 := by omega
    rw [a3, c3]
    clear a3 c3
    clear x0 x1
    exact ⟨by omega, by omega, by omega, by omega⟩
theorem stepJ9 (im base : Int) (b0 : 0 ≤ base) (b1 : base < 4096) : 0 ≤ layF 2 (im % 512) ∧ base + layF 2 (im % 512) < 4294967296 ∧ (base + layF 2 (im % 512)) / 536870912 % 2 = 0 ∧
    layF 2 (im % 1024) = layF 2 (im % 512) + bitT im 9 % 2 * 536870912 := by
  have e := mod_step im 9 512 1024 (by decide) (by decide)
  have hb := bitT_bd im 9
  have hx : 0 ≤ im % 512 ∧ im % 512 < 512 := by omega
  rw [e]
  generalize im % 512 = x at *
  generalize bitT im 9 = b at *
  have l1 : layF 2 x = x / 4096 % 256 * 4096 + x / 2048 % 2 * 1048576 + x / 2 % 1024 * 2097152 + x / 1048576 % 2 * 2147483648 := rfl
  have l2 : layF 2 (x + b * 512) = (x + b * 512) / 4096 % 256 * 4096 + (x + b * 512) / 2048 % 2 * 1048576 + (x + b * 512) / 2 % 1024 * 2097152 + (x + b * 512) / 1048576 % 2 * 2147483648 := rfl
  rw [l1, l2]
  obtain ⟨x0, x1⟩ := hx
  rcases hb with rfl | rfl
  · have a0 : (x + 0 * 512) / 4096 % 256 = 0 := by omega
    have c0 : x / 4096 % 256 = 0 := by omega
    rw [a0, c0]
    clear a0 c0
    have a1 : (x + 0 * 512) / 2048 % 2 = 0 := by omega
    have c1 : x / 2048 % 2 = 0 := by omega
    rw [a1, c1]
    clear a1 c1
    have a2 : (x + 0 * 512) / 2 % 1024 = x / 2 % 1024 + 0 := by omega
    have c2 : 0 ≤ x / 2 % 1024 ∧ x / 2 % 1024 < 256 := by omega
    rw [a2]
    clear a2
    generalize x / 2 % 1024 = y2 at *
    have a3 : (x + 0 * 512) / 1048576 % 2 = 0 := by omega
    have c3 : x / 1048576 % 2 = 0 := by omega
    rw [a3, c3]
    clear a3 c3
    clear x0 x1
    exact ⟨by omega, by omega, by omega, by omega⟩
  · have a0 : (x + 1 * 512) / 4096 % 256 = 0 := by omega
    have c0 : x / 4096 % 256 = 0 := by omega
    rw [a0, c0]
    clear a0 c0
    have a1 : (x + 1 * 512) / 2048 % 2 = 0 := by omega
    have c1 : x / 2048 % 2 = 0 := by omega
    rw [a1, c1]
    clear a1 c1
    have a2 : (x + 1 * 512) / 2 % 1024 = x / 2 % 1024 + 256 := by omega
    have c2 : 0 ≤ x / 2 % 1024 ∧ x / 2 % 1024 < 256 := by omega
    rw [a2]
    clear a2
    generalize x / 2 % 1024 = y2 at *
    have a3 : (x + 1 * 512) / 1048576 % 2 = 0 := by omega
    have c3 : x / 1048576 % 2 = 0 := by omega
    rw [a3, c3]
    clear a3 c3
    clear x0 x1
    exact ⟨by omega, by omega, by omega, by omega⟩
theorem stepJ10 (im base : Int) (b0 : 0 ≤ base) (b1 : base < 4096) : 0 ≤ layF 2 (im % 1024) ∧ base + layF 2 (im % 1024) < 4294967296 ∧ (base + layF 2 (im % 1024)) / 1073741824 % 2 = 0 ∧
    layF 2 (im % 2048) = layF 2 (im % 1024) + bitT im 10 % 2 * 1073741824 := by
  have e := mod_step im 10 1024 2048 (by decide) (by decide)
  have hb := bitT_bd im 10
  have hx : 0 ≤ im % 1024 ∧ im % 1024 < 1024 := by omega
  rw [e]
  generalize im % 1024 = x at *
  generalize bitT im 10 = b at *
  have l1 : layF 2 x = x / 4096 % 256 * 4096 + x / 2048 % 2 * 1048576 + x / 2 % 1024 * 2097152 + x / 1048576 % 2 * 2147483648 := rfl
  have l2 : layF 2 (x + b * 1024) = (x + b * 1024) / 4096 % 256 * 4096 + (x + b * 1024) / 2048 % 2 * 1048576 + (x + b * 1024) / 2 % 1024 * 2097152 + (x + b * 1024) / 1048576 % 2 * 2147483648 := rfl
  rw [l1, l2]
  obtain ⟨x0, x1⟩ := hx
  rcases hb with rfl | rfl
  · have a0 : (x + 0 * 1024) / 4096 % 256 = 0 := by omega
    have c0 : x / 4096 % 256 = 0 := by omega
    rw [a0, c0]
    clear a0 c0
    have a1 : (x + 0 * 1024) / 2048 % 2 = 0 := by omega
    have c1 : x / 2048 % 2 = 0 := by omega
    rw [a1, c1]
    clear a1 c1
    have a2 : (x + 0 * 1024) / 2 % 1024 = x / 2 % 1024 + 0 := by omega
    have c2 : 0 ≤ x / 2 % 1024 ∧ x / 2 % 1024 < 512 := by omega
    rw [a2]
    clear a2
    generalize x / 2 % 1024 = y2 at *
    have a3 : (x + 0 * 1024) / 1048576 % 2 = 0 := by omega
    have c3 : x / 1048576 % 2 = 0 := by omega
    rw [a3, c3]
    clear a3 c3
    clear x0 x1
    exact ⟨by omega, by omega, by omega, by omega⟩
  · have a0 : (x + 1 * 1024) / 4096 % 256 = 0 := by omega
    have c0 : x / 4096 % 256 = 0 := by omega
    rw [a0, c0]
    clear a0 c0
    have a1 : (x + 1 * 1024) / 2048 % 2 = 0 := by omega
    have c1 : x / 2048 % 2 = 0 := by omega
    rw [a1, c1]
    clear a1 c1
    have a2 : (x + 1 * 1024) / 2 % 1024 = x / 2 % 1024 + 512 := by omega
    have c2 : 0 ≤ x / 2 % 1024 ∧ x / 2 % 1024 < 512 := by omega
    rw [a2]
    clear a2
    generalize x / 2 % 1024 = y2 at *
    have a3 : (x + 1 * 1024) / 1048576 % 2 = 0 := by omega
    have c3 : x / 1048576 % 2 = 0 := by omega
    rw [a3, c3]
    clear a3 c3
    clear x0 x1
    exact ⟨by omega, by omega, by omega, by omega⟩
theorem stepJ11 (im base : Int) (b0 : 0 ≤ base) (b1 : base < 4096) : 0 ≤ layF 2 (im % 2048) ∧ base + layF 2 (im % 2048) < 4294967296 ∧ (base + layF 2 (im % 2048)) / 1048576 % 2 = 0 ∧
    layF 2 (im % 4096) = layF 2 (im % 2048) + bitT im 11 % 2 * 1048576 := by
  have e := mod_step im 11 2048 4096 (by decide) (by decide)
  have hb := bitT_bd im 11
  have hx : 0 ≤ im % 2048 ∧ im % 2048 < 2048 := by omega
  rw [e]
  generalize im % 2048 = x at *
  generalize bitT im 11 = b at *
  have l1 : layF 2 x = x / 4096 % 256 * 4096 + x / 2048 % 2 * 1048576 + x / 2 % 1024 * 2097152 + x / 1048576 % 2 * 2147483648 := rfl
  have l2 : layF 2 (x + b * 2048) = (x + b * 2048) / 4096 % 256 * 4096 + (x + b * 2048) / 2048 % 2 * 1048576 + (x + b * 2048) / 2 % 1024 * 2097152 + (x + b * 2048) / 1048576 % 2 * 2147483648 := rfl
  rw [l1, l2]
  obtain ⟨x0, x1⟩ := hx
  rcases hb with rfl | rfl
  · have a0 : (x + 0 * 2048) / 4096 % 256 = 0 := by omega
    have c0 : x / 4096 % 256 = 0 := by omega
    rw [a0, c0]
    clear a0 c0
    have a1 : (x + 0 * 2048) / 2048 % 2 = 0 := by omega
    have c1 : x / 2048 % 2 = 0 := by omega
    rw [a1, c1]
    clear a1 c1
    have a2 : (x + 0 * 2048) / 2 % 1024 = x / 2 % 1024 := by omega
    have c2 : 0 ≤ x / 2 % 1024 ∧ x / 2 % 1024 < 1024 := by omega
    rw [a2]
    clear a2
    generalize x / 2 % 1024 = y2 at *
    have a3 : (x + 0 * 2048) / 1048576 % 2 = 0 := by omega
    have c3 : x / 1048576 % 2 = 0 := by omega
    rw [a3, c3]
    clear a3 c3
    clear x0 x1
    exact ⟨by omega, by omega, by omega, by omega⟩
  · have a0 : (x + 1 * 2048) / 4096 % 256 = 0 := by omega
    have c0 : x / 4096 % 256 = 0 := by omega
    rw [a0, c0]
    clear a0 c0
    have a1 : (x + 1 * 2048) / 2048 % 2 = 1 := by omega
    have c1 : x / 2048 % 2 = 0 := by omega
    rw [a1, c1]
    clear a1 c1
    have a2 : (x + 1 * 2048) / 2 % 1024 = x / 2 % 1024 := by omega
    have c2 : 0 ≤ x / 2 % 1024 ∧ x / 2 % 1024 < 1024 := by omega
    rw [a2]
    clear a2
    generalize x / 2 % 1024 = y2 at *
    have a3 : (x + 1 * 2048) / 1048576 % 2 = 0 := by omega
    have c3 : x / 1048576 % 2 = 0 := by omega
    rw [a3, c3]
    clear a3 c3
    clear x0 x1
    exact ⟨by omega, by omega, by omega, by omega⟩
theorem stepJ12 (im base : Int) (b0 : 0 ≤ base) (b1 : base < 4096) : 0 ≤ layF 2 (im % 4096) ∧ base + layF 2 (im % 4096) < 4294967296 ∧ (base + layF 2 (im % 4096)) / 4096 % 2 = 0 ∧
    layF 2 (im % 8192) = layF 2 (im % 4096) + bitT im 12 % 2 * 4096 := by
  have e := mod_step im 12 4096 8192 (by decide) (by decide)
  have hb := bitT_bd im 12
  have hx : 0 ≤ im % 4096 ∧ im % 4096 < 4096 := by omega
  rw [e]
  generalize im % 4096 = x at *
  generalize bitT im 12 = b at *
  have l1 : layF 2 x = x / 4096 % 256 * 4096 + x / 2048 % 2 * 1048576 + x / 2 % 1024 * 2097152 + x / 1048576 % 2 * 2147483648 := rfl
  have l2 : layF 2 (x + b * 4096) = (x + b * 4096) / 4096 % 256 * 4096 + (x + b * 4096) / 2048 % 2 * 1048576 + (x + b * 4096) / 2 % 1024 * 2097152 + (x + b * 4096) / 1048576 % 2 * 2147483648 := rfl
  rw [l1, l2]
  obtain ⟨x0, x1⟩ := hx
  rcases hb with rfl | rfl
  · have a0 : (x + 0 * 4096) / 4096 % 256 = 0 := by omega
    have c0 : x / 4096 % 256 = 0 := by omega
    rw [a0, c0]
    clear a0 c0
    have a1 : (x + 0 * 4096) / 2048 % 2 = x / 2048 % 2 := by omega
    have c1 : 0 ≤ x / 2048 % 2 ∧ x / 2048 % 2 < 2 := by omega
    rw [a1]
    clear a1
    generalize x / 2048 % 2 = y1 at *
    have a2 : (x + 0 * 4096) / 2 % 1024 = x / 2 % 1024 := by omega
    have c2 : 0 ≤ x / 2 % 1024 ∧ x / 2 % 1024 < 1024 := by omega
    rw [a2]
    clear a2
    generalize x / 2 % 1024 = y2 at *
    have a3 : (x + 0 * 4096) / 1048576 % 2 = 0 := by omega
    have c3 : x / 1048576 % 2 = 0 := by omega
    rw [a3, c3]
    clear a3 c3
    clear x0 x1
    exact ⟨by omega, by omega, by omega, by omega⟩
  · have a0 : (x + 1 * 4096) / 4096 % 256 = 1 := by omega
    have c0 : x / 4096 % 256 = 0 := by omega
    rw [a0, c0]
    clear a0 c0
    have a1 : (x + 1 * 4096) / 2048 % 2 = x / 2048 % 2 := by omega
    have c1 : 0 ≤ x / 2048 % 2 ∧ x / 2048 % 2 < 2 := by omega
    rw [a1]
    clear a1
    generalize x / 2048 % 2 = y1 at *
    have a2 : (x + 1 * 4096) / 2 % 1024 = x / 2 % 1024 := by omega
    have c2 : 0 ≤ x / 2 % 1024 ∧ x / 2 % 1024 < 1024 := by omega
    rw [a2]
    clear a2
    generalize x / 2 % 1024 = y2 at *
    have a3 : (x + 1 * 4096) / 1048576 % 2 = 0 := by omega
    have c3 : x / 1048576 % 2 = 0 := by omega
    rw [a3, c3]
    clear a3 c3
    clear x0 x1
    exact ⟨by omega, by omega, by omega, by omega⟩
theorem stepJ13 (im base : Int) (b0 : 0 ≤ base) (b1 : base < 4096) : 0 ≤ layF 2 (im % 8192) ∧ base + layF 2 (im % 8192) < 4294967296 ∧ (base + layF 2 (im % 8192)) / 8192 % 2 = 0 ∧
    layF 2 (im % 16384) = layF 2 (im % 8192) + bitT im 13 % 2 * 8192 := by
  have e := mod_step im 13 8192 16384 (by decide) (by decide)
  have hb := bitT_bd im 13
  have hx : 0 ≤ im % 8192 ∧ im % 8192 < 8192 := by omega
  rw [e]
  generalize im % 8192 = x at *
  generalize bitT im 13 = b at *
  have l1 : layF 2 x = x / 4096 % 256 * 4096 + x / 2048 % 2 * 1048576 + x / 2 % 1024 * 2097152 + x / 1048576 % 2 * 2147483648 := rfl
  have l2 : layF 2 (x + b * 8192) = (x + b * 8192) / 4096 % 256 * 4096 + (x + b * 8192) / 2048 % 2 * 1048576 + (x + b * 8192) / 2 % 1024 * 2097152 + (x + b * 8192) / 1048576 % 2 * 2147483648 := rfl
  rw [l1, l2]
  obtain ⟨x0, x1⟩ := hx
  rcases hb with rfl | rfl
  · have a0 : (x + 0 * 8192) / 4096 % 256 = x / 4096 % 256 + 0 := by omega
    have c0 : 0 ≤ x / 4096 % 256 ∧ x / 4096 % 256 < 2 := by omega
    rw [a0]
    clear a0
    generalize x / 4096 % 256 = y0 at *
    have a1 : (x + 0 * 8192) / 2048 % 2 = x / 2048 % 2 := by omega
    have c1 : 0 ≤ x / 2048 % 2 ∧ x / 2048 % 2 < 2 := by omega
    rw [a1]
    clear a1
    generalize x / 2048 % 2 = y1 at *
    have a2 : (x + 0 * 8192) / 2 % 1024 = x / 2 % 1024 := by omega
    have c2 : 0 ≤ x / 2 % 1024 ∧ x / 2 % 1024 < 1024 := by omega
    rw [a2]
    clear a2
    generalize x / 2 % 1024 = y2 at *
    have a3 : (x + 0 * 8192) / 1048576 % 2 = 0 := by omega
    have c3 : x / 1048576 % 2 = 0 := by omega
    rw [a3, c3]
    clear a3 c3
    clear x0 x1
    exact ⟨by omega, by omega, by omega, by omega⟩
  · have a0 : (x + 1 * 8192) / 4096 % 256 = x / 4096 % 256 + 2 := by omega
    have c0 : 0 ≤ x / 4096 % 256 ∧ x / 4096 % 256 < 2 := by omega
    rw [a0]
    clear a0
    generalize x / 4096 % 256 = y0 at *
    have a1 : (x + 1 * 8192) / 2048 % 2 = x / 2048 % 2 := by omega
    have c1 : 0 ≤ x / 2048 % 2 ∧ x / 2048 % 2 < 2 := by omega
    rw [a1]
    clear a1
    generalize x / 2048 % 2 = y1 at *
    have a2 : (x + 1 * 8192) / 2 % 1024 = x / 2 % 1024 := by omega
    have c2 : 0 ≤ x / 2 % 1024 ∧ x / 2 % 1024 < 1024 := by omega
    rw [a2]
    clear a2
    generalize x / 2 % 1024 = y2 at *
    have a3 : (x + 1 * 8192) / 1048576 % 2 = 0 := by omega
    have c3 : x / 1048576 % 2 = 0 := by omega
    rw [a3, c3]
    clear a3 c3
    clear x0 x1
    exact ⟨by omega, by omega, by omega, by omega⟩
theorem stepJ14 (im base : Int) (b0 : 0 ≤ base) (b1 : base < 4096) : 0 ≤ layF 2 (im % 16384) ∧ base + layF 2 (im % 16384) < 4294967296 ∧ (base + layF 2 (im % 16384)) / 16384 % 2 = 0 ∧
    layF 2 (im % 32768) = layF 2 (im % 16384) + bitT im 14 % 2 * 16384 := by
  have e := mod_step im 14 16384 32768 (by decide) (by decide)
  have hb := bitT_bd im 14
  have hx : 0 ≤ im % 16384 ∧ im % 16384 < 16384 := by omega
  rw [e]
  generalize im % 16384 = x at *
  generalize bitT im 14 = b at *
  have l1 : layF 2 x = x / 4096 % 256 * 4096 + x / 2048 % 2 * 1048576 + x / 2 % 1024 * 2097152 + x / 1048576 % 2 * 2147483648 := rfl
  have l2 : layF 2 (x + b * 16384) = (x + b * 16384) / 4096 % 256 * 4096 + (x + b * 16384) / 2048 % 2 * 1048576 + (x + b * 16384) / 2 % 1024 * 2097152 + (x + b * 16384) / 1048576 % 2 * 2147483648 := rfl
  rw [l1, l2]
  obtain ⟨x0, x1⟩ := hx
  rcases hb with rfl | rfl
  · have a0 : (x + 0 * 16384) / 4096 % 256 = x / 4096 % 256 + 0 := by omega
    have c0 : 0 ≤ x / 4096 % 256 ∧ x / 4096 % 256 < 4 := by omega
    rw [a0]
    clear a0
    generalize x / 4096 % 256 = y0 at *
    have a1 : (x + 0 * 16384) / 2048 % 2 = x / 2048 % 2 := by omega
    have c1 : 0 ≤ x / 2048 % 2 ∧ x / 2048 % 2 < 2 := by omega
    rw [a1]
    clear a1
    generalize x / 2048 % 2 = y1 at *
    have a2 : (x + 0 * 16384) / 2 % 1024 = x / 2 % 1024 := by omega
    have c2 : 0 ≤ x / 2 % 1024 ∧ x / 2 % 1024 < 1024 := by omega
    rw [a2]
    clear a2
    generalize x / 2 % 1024 = y2 at *
    have a3 : (x + 0 * 16384) / 1048576 % 2 = 0 := by omega
    have c3 : x / 1048576 % 2 = 0 := by omega
    rw [a3, c3]
    clear a3 c3
    clear x0 x1
    exact ⟨by omega, by omega, by omega, by omega⟩
  · have a0 : (x + 1 * 16384) / 4096 % 256 = x / 4096 % 256 + 4 := by omega
    have c0 : 0 ≤ x / 4096 % 256 ∧ x / 4096 % 256 < 4 := by omega
    rw [a0]
    clear a0
    generalize x / 4096 % 256 = y0 at *
    have a1 : (x + 1 * 16384) / 2048 % 2 = x / 2048 % 2 := by omega
    have c1 : 0 ≤ x / 2048 % 2 ∧ x / 2048 % 2 < 2 := by omega
    rw [a1]
    clear a1
    generalize x / 2048 % 2 = y1 at *
    have a2 : (x + 1 * 16384) / 2 % 1024 = x / 2 % 1024 := by omega
    have c2 : 0 ≤ x / 2 % 1024 ∧ x / 2 % 1024 < 1024 := by omega
    rw [a2]
    clear a2
    generalize x / 2 % 1024 = y2 at *
    have a3 : (x + 1 * 16384) / 1048576 % 2 = 0 := by omega
    have c3 : x / 1048576 % 2 = 0 := by omega
    rw [a3, c3]
    clear a3 c3
    clear x0 x1
    exact ⟨by omega, by omega, by omega, by omega⟩
theorem stepJ15 (im base : Int) (b0 : 0 ≤ base) (b1 : base < 4096) : 0 ≤ layF 2 (im % 32768) ∧ base + layF 2 (im % 32768) < 4294967296 ∧ (base + layF 2 (im % 32768)) / 32768 % 2 = 0 ∧
    layF 2 (im % 65536) = layF 2 (im % 32768) + bitT im 15 % 2 * 32768 := by
  have e := mod_step im 15 32768 65536 (by decide) (by decide)
  have hb := bitT_bd im 15
  have hx : 0 ≤ im % 32768 ∧ im % 32768 < 32768 := by omega
  rw [e]
  generalize im % 32768 = x at *
  generalize bitT im 15 = b at *
  have l1 : layF 2 x = x / 4096 % 256 * 4096 + x / 2048 % 2 * 1048576 + x / 2 % 1024 * 2097152 + x / 1048576 % 2 * 2147483648 := rfl
  have l2 : layF 2 (x + b * 32768) = (x + b * 32768) / 4096 % 256 * 4096 + (x + b * 32768) / 2048 % 2 * 1048576 + (x + b * 32768) / 2 % 1024 * 2097152 + (x + b * 32768) / 1048576 % 2 * 2147483648 := rfl
  rw [l1, l2]
  obtain ⟨x0, x1⟩ := hx
  rcases hb with rfl | rfl
  · have a0 : (x + 0 * 32768) / 4096 % 256 = x / 4096 % 256 + 0 := by omega
    have c0 : 0 ≤ x / 4096 % 256 ∧ x / 4096 % 256 < 8 := by omega
    rw [a0]
    clear a0
    generalize x / 4096 % 256 = y0 at *
    have a1 : (x + 0 * 32768) / 2048 % 2 = x / 2048 % 2 := by omega
    have c1 : 0 ≤ x / 2048 % 2 ∧ x / 2048 % 2 < 2 := by omega
    rw [a1]
    clear a1
    generalize x / 2048 % 2 = y1 at *
    have a2 : (x + 0 * 32768) / 2 % 1024 = x / 2 % 1024 := by omega
    have c2 : 0 ≤ x / 2 % 1024 ∧ x / 2 % 1024 < 1024 := by omega
    rw [a2]
    clear a2
    generalize x / 2 % 1024 = y2 at *
    have a3 : (x + 0 * 32768) / 1048576 % 2 = 0 := by omega
    have c3 : x / 1048576 % 2 = 0 := by omega
    rw [a3, c3]
    clear a3 c3
    clear x0 x1
    exact ⟨by omega, by omega, by omega, by omega⟩
  · have a0 : (x + 1 * 32768) / 4096 % 256 = x / 4096 % 256 + 8 := by omega
    have c0 : 0 ≤ x / 4096 % 256 ∧ x / 4096 % 256 < 8 := by omega
    rw [a0]
    clear a0
    generalize x / 4096 % 256 = y0 at *
    have a1 : (x + 1 * 32768) / 2048 % 2 = x / 2048 % 2 := by omega
    have c1 : 0 ≤ x / 2048 % 2 ∧ x / 2048 % 2 < 2 := by omega
    rw [a1]
    clear a1
    generalize x / 2048 % 2 = y1 at *
    have a2 : (x + 1 * 32768) / 2 % 1024 = x / 2 % 1024 := by omega
    have c2 : 0 ≤ x / 2 % 1024 ∧ x / 2 % 1024 < 1024 := by omega
    rw [a2]
    clear a2
    generalize x / 2 % 1024 = y2 at *
    have a3 : (x + 1 * 32768) / 1048576 % 2 = 0 := by omega
    have c3 : x / 1048576 % 2 = 0 := by omega
    rw [a3, c3]
    clear a3 c3
    clear x0 x1
    exact ⟨by omega, by omega, by omega, by omega⟩
theorem stepJ16 (im base : Int) (b0 : 0 ≤ base) (b1 : base < 4096) : 0 ≤ layF 2 (im % 65536) ∧ base + layF 2 (im % 65536) < 4294967296 ∧ (base + layF 2 (im % 65536)) / 65536 % 2 = 0 ∧
    layF 2 (im % 131072) = layF 2 (im % 65536) + bitT im 16 % 2 * 65536 := by
  have e := mod_step im 16 65536 131072 (by decide) (by decide)
  have hb := bitT_bd im 16
  have hx : 0 ≤ im % 65536 ∧ im % 65536 < 65536 := by omega
  rw [e]
  generalize im % 65536 = x at *
  generalize bitT im 16 = b at *
  have l1 : layF 2 x = x / 4096 % 256 * 4096 + x / 2048 % 2 * 1048576 + x / 2 % 1024 * 2097152 + x / 1048576 % 2 * 2147483648 := rfl
  have l2 : layF 2 (x + b * 65536) = (x + b * 65536) / 4096 % 256 * 4096 + (x + b * 65536) / 2048 % 2 * 1048576 + (x + b * 65536) / 2 % 1024 * 2097152 + (x + b * 65536) / 1048576 % 2 * 2147483648 := rfl
  rw [l1, l2]
  obtain ⟨x0, x1⟩ := hx
  rcases hb with rfl | rfl
  · have a0 : (x + 0 * 65536) / 4096 % 256 = x / 4096 % 256 + 0 := by omega
    have c0 : 0 ≤ x / 4096 % 256 ∧ x / 4096 % 256 < 16 := by omega
    rw [a0]
    clear a0
    generalize x / 4096 % 256 = y0 at *
    have a1 : (x + 0 * 65536) / 2048 % 2 = x / 2048 % 2 := by omega
    have c1 : 0 ≤ x / 2048 % 2 ∧ x / 2048 % 2 < 2 := by omega
    rw [a1]
    clear a1
    generalize x / 2048 % 2 = y1 at *
    have a2 : (x + 0 * 65536) / 2 % 1024 = x / 2 % 1024 := by omega
    have c2 : 0 ≤ x / 2 % 1024 ∧ x / 2 % 1024 < 1024 := by omega
    rw [a2]
    clear a2
    generalize x / 2 % 1024 = y2 at *
    have a3 : (x + 0 * 65536) / 1048576 % 2 = 0 := by omega
    have c3 : x / 1048576 % 2 = 0 := by omega
    rw [a3, c3]
    clear a3 c3
    clear x0 x1
    exact ⟨by omega, by omega, by omega, by omega⟩
  · have a0 : (x + 1 * 65536) / 4096 % 256 = x / 4096 % 256 + 16 := by omega
    have c0 : 0 ≤ x / 4096 % 256 ∧ x / 4096 % 256 < 16 := by omega
    rw [a0]
    clear a0
    generalize x / 4096 % 256 = y0 at *
    have a1 : (x + 1 * 65536) / 2048 % 2 = x / 2048 % 2 := by omega
    have c1 : 0 ≤ x / 2048 % 2 ∧ x / 2048 % 2 < 2 := by omega
    rw [a1]
    clear a1
    generalize x / 2048 % 2 = y1 at *
    have a2 : (x + 1 * 65536) / 2 % 1024 = x / 2 % 1024 := by omega
    have c2 : 0 ≤ x / 2 % 1024 ∧ x / 2 % 1024 < 1024 := by omega
    rw [a2]
    clear a2
    generalize x / 2 % 1024 = y2 at *
    have a3 : (x + 1 * 65536) / 1048576 % 2 = 0 := by omega
    have c3 : x / 1048576 % 2 = 0 := by omega
    rw [a3, c3]
    clear a3 c3
    clear x0 x1
    exact ⟨by omega, by omega, by omega, by omega⟩
theorem stepJ17 (im base : Int) (b0 : 0 ≤ base) (b1 : base < 4096) : 0 ≤ layF 2 (im % 131072) ∧ base + layF 2 (im % 131072) < 4294967296 ∧ (base + layF 2 (im % 131072)) / 131072 % 2 = 0 ∧
    layF 2 (im % 262144) = layF 2 (im % 131072) + bitT im 17 % 2 * 131072 := by
  have e := mod_step im 17 131072 262144 (by decide) (by decide)
  have hb := bitT_bd im 17
  have hx : 0 ≤ im % 131072 ∧ im % 131072 < 131072 := by omega
  rw [e]
  generalize im % 131072 = x at *
  generalize bitT im 17 = b at *
  have l1 : layF 2 x = x / 4096 % 256 * 4096 + x / 2048 % 2 * 1048576 + x / 2 % 1024 * 2097152 + x / 1048576 % 2 * 2147483648 := rfl
  have l2 : layF 2 (x + b * 131072) = (x + b * 131072) / 4096 % 256 * 4096 + (x + b * 131072) / 2048 % 2 * 1048576 + (x + b * 131072) / 2 % 1024 * 2097152 + (x + b * 131072) / 1048576 % 2 * 2147483648 := rfl
  rw [l1, l2]
  obtain ⟨x0, x1⟩ := hx
  rcases hb with rfl | rfl
  · have a0 : (x + 0 * 131072) / 4096 % 256 = x / 4096 % 256 + 0 := by omega
    have c0 : 0 ≤ x / 4096 % 256 ∧ x / 4096 % 256 < 32 := by omega
    rw [a0]
    clear a0
    generalize x / 4096 % 256 = y0 at *
    have a1 : (x + 0 * 131072) / 2048 % 2 = x / 2048 % 2 := by omega
    have c1 : 0 ≤ x / 2048 % 2 ∧ x / 2048 % 2 < 2 := by omega
    rw [a1]
    clear a1
    generalize x / 2048 % 2 = y1 at *
    have a2 : (x + 0 * 131072) / 2 % 1024 = x / 2 % 1024 := by omega
    have c2 : 0 ≤ x / 2 % 1024 ∧ x / 2 % 1024 < 1024 := by omega
    rw [a2]
    clear a2
    generalize x / 2 % 1024 = y2 at *
    have a3 : (x + 0 * 131072) / 1048576 % 2 = 0 := by omega
    have c3 : x / 1048576 % 2 = 0 := by omega
    rw [a3, c3]
    clear a3 c3
    clear x0 x1
    exact ⟨by omega, by omega, by omega, by omega⟩
  · have a0 : (x + 1 * 131072) / 4096 % 256 = x / 4096 % 256 + 32 := by omega
    have c0 : 0 ≤ x / 4096 % 256 ∧ x / 4096 % 256 < 32 := by omega
    rw [a0]
    clear a0
    generalize x / 4096 % 256 = y0 at *
    have a1 : (x + 1 * 131072) / 2048 % 2 = x / 2048 % 2 := by omega
    have c1 : 0 ≤ x / 2048 % 2 ∧ x / 2048 % 2 < 2 := by omega
    rw [a1]
    clear a1
    generalize x / 2048 % 2 = y1 at *
    have a2 : (x + 1 * 131072) / 2 % 1024 = x / 2 % 1024 := by omega
    have c2 : 0 ≤ x / 2 % 1024 ∧ x / 2 % 1024 < 1024 := by omega
    rw [a2]
    clear a2
    generalize x / 2 % 1024 = y2 at *
    have a3 : (x + 1 * 131072) / 1048576 % 2 = 0 := by omega
    have c3 : x / 1048576 % 2 = 0 := by omega
    rw [a3, c3]
    clear a3 c3
    clear x0 x1
    exact ⟨by omega, by omega, by omega, by omega⟩
theorem stepJ18 (im base : Int) (b0 : 0 ≤ base) (b1 : base < 4096) : 0 ≤ layF 2 (im % 262144) ∧ base + layF 2 (im % 262144) < 4294967296 ∧ (base + layF 2 (im % 262144)) / 262144 % 2 = 0 ∧
    layF 2 (im % 524288) = layF 2 (im % 262144) + bitT im 18 % 2 * 262144 := by
  have e := mod_step im 18 262144 524288 (by decide) (by decide)
  have hb := bitT_bd im 18
  have hx : 0 ≤ im % 262144 ∧ im % 262144 < 262144 := by omega
  rw [e]
  generalize im % 262144 = x at *
  generalize bitT im 18 = b at *
  have l1 : layF 2 x = x / 4096 % 256 * 4096 + x / 2048 % 2 * 1048576 + x / 2 % 1024 * 2097152 + x / 1048576 % 2 * 2147483648 := rfl
  have l2 : layF 2 (x + b * 262144) = (x + b * 262144) / 4096 % 256 * 4096 + (x + b * 262144) / 2048 % 2 * 1048576 + (x + b * 262144) / 2 % 1024 * 2097152 + (x + b * 262144) / 1048576 % 2 * 2147483648 := rfl
  rw [l1, l2]
  obtain ⟨x0, x1⟩ := hx
  rcases hb with rfl | rfl
  · have a0 : (x + 0 * 262144) / 4096 % 256 = x / 4096 % 256 + 0 := by omega
    have c0 : 0 ≤ x / 4096 % 256 ∧ x / 4096 % 256 < 64 := by omega
    rw [a0]
    clear a0
    generalize x / 4096 % 256 = y0 at *
    have a1 : (x + 0 * 262144) / 2048 % 2 = x / 2048 % 2 := by omega
    have c1 : 0 ≤ x / 2048 % 2 ∧ x / 2048 % 2 < 2 := by omega
    rw [a1]
    clear a1
    generalize x / 2048 % 2 = y1 at *
    have a2 : (x + 0 * 262144) / 2 % 1024 = x / 2 % 1024 := by omega
    have c2 : 0 ≤ x / 2 % 1024 ∧ x / 2 % 1024 < 1024 := by omega
    rw [a2]
    clear a2
    generalize x / 2 % 1024 = y2 at *
    have a3 : (x + 0 * 262144) / 1048576 % 2 = 0 := by omega
    have c3 : x / 1048576 % 2 = 0 := by omega
    rw [a3, c3]
    clear a3 c3
    clear x0 x1
    exact ⟨by omega, by omega, by omega, by omega⟩
  · have a0 : (x + 1 * 262144) / 4096 % 256 = x / 4096 % 256 + 64 := by omega
    have c0 : 0 ≤ x / 4096 % 256 ∧ x / 4096 % 256 < 64 := by omega
    rw [a0]
    clear a0
    generalize x / 4096 % 256 = y0 at *
    have a1 : (x + 1 * 262144) / 2048 % 2 = x / 2048 % 2 := by omega
    have c1 : 0 ≤ x / 2048 % 2 ∧ x / 2048 % 2 < 2 := by omega
    rw [a1]
    clear a1
    generalize x / 2048 % 2 = y1 at *
    have a2 : (x + 1 * 262144) / 2 % 1024 = x / 2 % 1024 := by omega
    have c2 : 0 ≤ x / 2 % 1024 ∧ x / 2 % 1024 < 1024 := by omega
    rw [a2]
    clear a2
    generalize x / 2 % 1024 = y2 at *
    have a3 : (x + 1 * 262144) / 1048576 % 2 = 0 := by omega
    have c3 : x / 1048576 % 2 = 0 := by omega
    rw [a3, c3]
    clear a3 c3
    clear x0 x1
    exact ⟨by omega, by omega, by omega, by omega⟩
theorem stepJ19 (im base : Int) (b0 : 0 ≤ base) (b1 : base < 4096) : 0 ≤ layF 2 (im % 524288) ∧ base + layF 2 (im % 524288) < 4294967296 ∧ (base + layF 2 (im % 524288)) / 524288 % 2 = 0 ∧
    layF 2 (im % 1048576) = layF 2 (im % 524288) + bitT im 19 % 2 * 524288 := by
  have e := mod_step im 19 524288 1048576 (by decide) (by decide)
  have hb := bitT_bd im 19
  have hx : 0 ≤ im % 524288 ∧ im % 524288 < 524288 := by omega
  rw [e]
  generalize im % 524288 = x at *
  generalize bitT im 19 = b at *
  have l1 : layF 2 x = x / 4096 % 256 * 4096 + x / 2048 % 2 * 1048576 + x / 2 % 1024 * 2097152 + x / 1048576 % 2 * 2147483648 := rfl
  have l2 : layF 2 (x + b * 524288) = (x + b * 524288) / 4096 % 256 * 4096 + (x + b * 524288) / 2048 % 2 * 1048576 + (x + b * 524288) / 2 % 1024 * 2097152 + (x + b * 524288) / 1048576 % 2 * 2147483648 := rfl
  rw [l1, l2]
  obtain ⟨x0, x1⟩ := hx
  rcases hb with rfl | rfl
  · have a0 : (x + 0 * 524288) / 4096 % 256 = x / 4096 % 256 + 0 := by omega
    have c0 : 0 ≤ x / 4096 % 256 ∧ x / 4096 % 256 < 128 := by omega
    rw [a0]
    clear a0
    generalize x / 4096 % 256 = y0 at *
    have a1 : (x + 0 * 524288) / 2048 % 2 = x / 2048 % 2 := by omega
    have c1 : 0 ≤ x / 2048 % 2 ∧ x / 2048 % 2 < 2 := by omega
    rw [a1]
    clear a1
    generalize x / 2048 % 2 = y1 at *
    have a2 : (x + 0 * 524288) / 2 % 1024 = x / 2 % 1024 := by omega
    have c2 : 0 ≤ x / 2 % 1024 ∧ x / 2 % 1024 < 1024 := by omega
    rw [a2]
    clear a2
    generalize x / 2 % 1024 = y2 at *
    have a3 : (x + 0 * 524288) / 1048576 % 2 = 0 := by omega
    have c3 : x / 1048576 % 2 = 0 := by omega
    rw [a3, c3]
    clear a3 c3
    clear x0 x1
    exact ⟨by omega, by omega, by omega, by omega⟩
  · have a0 : (x + 1 * 524288) / 4096 % 256 = x / 4096 % 256 + 128 := by omega
    have c0 : 0 ≤ x / 4096 % 256 ∧ x / 4096 % 256 < 128 := by omega
    rw [a0]
    clear a0
    generalize x / 4096 % 256 = y0 at *
    have a1 : (x + 1 * 524288) / 2048 % 2 = x / 2048 % 2 := by omega
    have c1 : 0 ≤ x / 2048 % 2 ∧ x / 2048 % 2 < 2 := by omega
    rw [a1]
    clear a1
    generalize x / 2048 % 2 = y1 at *
    have a2 : (x + 1 * 524288) / 2 % 1024 = x / 2 % 1024 := by omega
    have c2 : 0 ≤ x / 2 % 1024 ∧ x / 2 % 1024 < 1024 := by omega
    rw [a2]
    clear a2
    generalize x / 2 % 1024 = y2 at *
    have a3 : (x + 1 * 524288) / 1048576 % 2 = 0 := by omega
    have c3 : x / 1048576 % 2 = 0 := by omega
    rw [a3, c3]
    clear a3 c3
    clear x0 x1
    exact ⟨by omega, by omega, by omega, by omega⟩
theorem stepJ20 (im base : Int) (b0 : 0 ≤ base) (b1 : base < 4096) : 0 ≤ layF 2 (im % 1048576) ∧ base + layF 2 (im % 1048576) < 4294967296 ∧ (base + layF 2 (im % 1048576)) / 2147483648 % 2 = 0 ∧
    layF 2 (im % 2097152) = layF 2 (im % 1048576) + bitT im 20 % 2 * 2147483648 := by
  have e := mod_step im 20 1048576 2097152 (by decide) (by decide)
  have hb := bitT_bd im 20
  have hx : 0 ≤ im % 1048576 ∧ im % 1048576 < 1048576 := by omega
  rw [e]
  generalize im % 1048576 = x at *
  generalize bitT im 20 = b at *
  have l1 : layF 2 x = x / 4096 % 256 * 4096 + x / 2048 % 2 * 1048576 + x / 2 % 1024 * 2097152 + x / 1048576 % 2 * 2147483648 := rfl
  have l2 : layF 2 (x + b * 1048576) = (x + b * 1048576) / 4096 % 256 * 4096 + (x + b * 1048576) / 2048 % 2 * 1048576 + (x + b * 1048576) / 2 % 1024 * 2097152 + (x + b * 1048576) / 1048576 % 2 * 2147483648 := rfl
  rw [l1, l2]
  obtain ⟨x0, x1⟩ := hx
  rcases hb with rfl | rfl
  · have a0 : (x + 0 * 1048576) / 4096 % 256 = x / 4096 % 256 := by omega
    have c0 : 0 ≤ x / 4096 % 256 ∧ x / 4096 % 256 < 256 := by omega
    rw [a0]
    clear a0
    generalize x / 4096 % 256 = y0 at *
    have a1 : (x + 0 * 1048576) / 2048 % 2 = x / 2048 % 2 := by omega
    have c1 : 0 ≤ x / 2048 % 2 ∧ x / 2048 % 2 < 2 := by omega
    rw [a1]
    clear a1
    generalize x / 2048 % 2 = y1 at *
    have a2 : (x + 0 * 1048576) / 2 % 1024 = x / 2 % 1024 := by omega
    have c2 : 0 ≤ x / 2 % 1024 ∧ x / 2 % 1024 < 1024 := by omega
    rw [a2]
    clear a2
    generalize x / 2 % 1024 = y2 at *
    have a3 : (x + 0 * 1048576) / 1048576 % 2 = 0 := by omega
    have c3 : x / 1048576 % 2 = 0 := by omega
    rw [a3, c3]
    clear a3 c3
    clear x0 x1
    exact ⟨by omega, by omega, by omega, by omega⟩
  · have a0 : (x + 1 * 1048576) / 4096 % 256 = x / 4096 % 256 := by omega
    have c0 : 0 ≤ x / 4096 % 256 ∧ x / 4096 % 256 < 256 := by omega
    rw [a0]
    clear a0
    generalize x / 4096 % 256 = y0 at *
    have a1 : (x + 1 * 1048576) / 2048 % 2 = x / 2048 % 2 := by omega
    have c1 : 0 ≤ x / 2048 % 2 ∧ x / 2048 % 2 < 2 := by omega
    rw [a1]
    clear a1
    generalize x / 2048 % 2 = y1 at *
    have a2 : (x + 1 * 1048576) / 2 % 1024 = x / 2 % 1024 := by omega
    have c2 : 0 ≤ x / 2 % 1024 ∧ x / 2 % 1024 < 1024 := by omega
    rw [a2]
    clear a2
    generalize x / 2 % 1024 = y2 at *
    have a3 : (x + 1 * 1048576) / 1048576 % 2 = 1 := by omega
    have c3 : x / 1048576 % 2 = 0 := by omega
    rw [a3, c3]
    clear a3 c3
    clear x0 x1
    exact ⟨by omega, by omega, by omega, by omega⟩
def atJ (k : Nat) : Nat := if k = 20 then 31 else if 11 < k then k else if k = 11 then 20 else 20 + k
theorem stepJ (im base : Int) (k : Nat) (b0 : 0 ≤ base) (b1 : base < 4096) (h0 : 1 ≤ k) (h1 : k ≤ 20) : 0 ≤ layF 2 (im % 2 ^ k) ∧ base + layF 2 (im % 2 ^ k) < 4294967296 ∧ (base + layF 2 (im % 2 ^ k)) / 2 ^ atJ k % 2 ^ 1 = 0 ∧
    layF 2 (im % 2 ^ (k + 1)) = layF 2 (im % 2 ^ k) + bitT im k % 2 ^ 1 * 2 ^ atJ k := by
  rcases (show k = 1 ∨ k = 2 ∨ k = 3 ∨ k = 4 ∨ k = 5 ∨ k = 6 ∨ k = 7 ∨ k = 8 ∨ k = 9 ∨ k = 10 ∨ k = 11 ∨ k = 12 ∨ k = 13 ∨ k = 14 ∨ k = 15 ∨ k = 16 ∨ k = 17 ∨ k = 18 ∨ k = 19 ∨ k = 20 by omega) with rfl | rfl | rfl | rfl | rfl | rfl | rfl | rfl | rfl | rfl | rfl | rfl | rfl | rfl | rfl | rfl | rfl | rfl | rfl | rfl
  · exact stepJ1 im base b0 b1
  · exact stepJ2 im base b0 b1
  · exact stepJ3 im base b0 b1
  · exact stepJ4 im base b0 b1
  · exact stepJ5 im base b0 b1
  · exact stepJ6 im base b0 b1
  · exact stepJ7 im base b0 b1
  · exact stepJ8 im base b0 b1
  · exact stepJ9 im base b0 b1
  · exact stepJ10 im base b0 b1
  · exact stepJ11 im base b0 b1
  · exact stepJ12 im base b0 b1
  · exact stepJ13 im base b0 b1
  · exact stepJ14 im base b0 b1
  · exact stepJ15 im base b0 b1
  · exact stepJ16 im base b0 b1
  · exact stepJ17 im base b0 b1
  · exact stepJ18 im base b0 b1
  · exact stepJ19 im base b0 b1
  · exact stepJ20 im base b0 b1
theorem fullJ (im : Int) : layF 2 (im % 2 ^ 21) = layF 2 im := by
  have l1 : layF 2 im = im / 4096 % 256 * 4096 + im / 2048 % 2 * 1048576 + im / 2 % 1024 * 2097152 + im / 1048576 % 2 * 2147483648 := rfl
  have l2 : layF 2 (im % 2 ^ 21) = (im % 2097152) / 4096 % 256 * 4096 + (im % 2097152) / 2048 % 2 * 1048576 + (im % 2097152) / 2 % 1024 * 2097152 + (im % 2097152) / 1048576 % 2 * 2147483648 := rfl
  rw [l1, l2]
  omega
end Go.Proofs.YtdbngfeelfgbeaaGreatDoor

namespace Go.Proofs.YtdbngfeelfgbeaaGreatDoor
set_option linter.unusedVariables false

theorem stepB1 (im base : Int) (b0 : 0 ≤ base) (b1 : base < 33554432) (b2 : base / 128 % 32 = 0) : 0 ≤ layF 4 (im % 2) ∧ base + layF 4 (im % 2) < 4294967296 ∧ (base + layF 4 (im % 2)) / 256 % 2 = 0 ∧
    layF 4 (im % 4) = layF 4 (im % 2) + bitT im 1 % 2 * 256 := by
  have e := mod_step im 1 2 4 (by decide) (by decide)
  have hb := bitT_bd im 1
  have hx : 0 ≤ im % 2 ∧ im % 2 < 2 := by omega
  rw [e]
  generalize im % 2 = x at *
  generalize bitT im 1 = b at *
  have l1 : layF 4 x = x / 2048 % 2 * 128 + x / 2 % 16 * 256 + x / 32 % 64 * 33554432 + x / 4096 % 2 * 2147483648 := rfl
  have l2 : layF 4 (x + b * 2) = (x + b * 2) / 2048 % 2 * 128 + (x + b * 2) / 2 % 16 * 256 + (x + b * 2) / 32 % 64 * 33554432 + (x + b * 2) / 4096 % 2 * 2147483648 := rfl
  rw [l1, l2]
  obtain ⟨x0, x1⟩ := hx
  rcases hb with rfl | rfl
  · have a0 : (x + 0 * 2) / 2048 % 2 = 0 := by omega
    have c0 : x / 2048 % 2 = 0 := by omega
    rw [a0, c0]
    clear a0 c0
    have a1 : (x + 0 * 2) / 2 % 16 = 0 := by omega
    have c1 : x / 2 % 16 = 0 := by omega
    rw [a1, c1]
    clear a1 c1
    have a2 : (x + 0 * 2) / 32 % 64 = 0 := by omega
    have c2 : x / 32 % 64 = 0 := by omega
    rw [a2, c2]
    clear a2 c2
    have a3 : (x + 0 * 2) / 4096 % 2 = 0 := by omega
    have c3 : x / 4096 % 2 = 0 := by omega
    rw [a3, c3]
    clear a3 c3
    clear x0 x1
    exact ⟨by omega, by omega, by omega, by omega⟩
  · have a0 : (x + 1 * 2) / 2048 % 2 = 0 := by omega
    have c0 : x / 2048 % 2 = 0 := by omega
    rw [a0, c0]
    clear a0 c0
    have a1 : (x + 1 * 2) / 2 % 16 = 1 := by omega
    have c1 : x / 2 % 16 = 0 := by omega
    rw [a1, c1]
    clear a1 c1
    have a2 : (x + 1 * 2) / 32 % 64 = 0 := by omega
    have c2 : x / 32 % 64 = 0 := by omega
    rw [a2, c2]
    clear a2 c2
    have a3 : (x + 1 * 2) / 4096 % 2 = 0 := by omega
    have c3 : x / 4096 % 2 = 0 := by omega
    rw [a3, c3]
    clear a3 c3
    clear x0 x1
    exact ⟨by omega, by omega, by omega, by omega⟩
theorem stepB2 (im base : Int) (b0 : 0 ≤ base) (b1 : base < 33554432) (b2 : base / 128 % 32 = 0) : 0 ≤ layF 4 (im % 4) ∧ base + layF 4 (im % 4) < 4294967296 ∧ (base + layF 4 (im % 4)) / 512 % 2 = 0 ∧
    layF 4 (im % 8) = layF 4 (im % 4) + bitT im 2 % 2 * 512 := by
  have e := mod_step im 2 4 8 (by decide) (by decide)
  have hb := bitT_bd im 2
  have hx : 0 ≤ im % 4 ∧ im % 4 < 4 := by omega
  rw [e]
  generalize im % 4 = x at *
  generalize bitT im 2 = b at *
  have l1 : layF 4 x = x / 2048 % 2 * 128 + x / 2 % 16 * 256 + x / 32 % 64 * 33554432 + x / 4096 % 2 * 2147483648 := rfl
  have l2 : layF 4 (x + b * 4) = (x + b * 4) / 2048 % 2 * 128 + (x + b * 4) / 2 % 16 * 256 + (x + b * 4) / 32 % 64 * 33554432 + (x + b * 4) / 4096 % 2 * 2147483648 := rfl
  rw [l1, l2]
  obtain ⟨x0, x1⟩ := hx
  rcases hb with rfl | rfl
  · have a0 : (x + 0 * 4) / 2048 % 2 = 0 := by omega
    have c0 : x / 2048 % 2 = 0 := by omega
    rw [a0, c0]
    clear a0 c0
    have a1 : (x + 0 * 4) / 2 % 16 = x / 2 % 16 + 0 := by omega
    have c1 : 0 ≤ x / 2 % 16 ∧ x / 2 % 16 < 2 := by omega
    rw [a1]
    clear a1
    generalize x / 2 % 16 = y1 at *
    have a2 : (x + 0 * 4) / 32 % 64 = 0 := by omega
    have c2 : x / 32 % 64 = 0 := by omega
    rw [a2, c2]
    clear a2 c2
    have a3 : (x + 0 * 4) / 4096 % 2 = 0 := by omega
    have c3 : x / 4096 % 2 = 0 := by omega
    rw [a3, c3]
    clear a3 c3
    clear x0 x1
    exact ⟨by omega, by omega, by omega, by omega⟩
  · have a0 : (x + 1 * 4) / 2048 % 2 = 0 := by omega
    have c0 : x / 2048 % 2 = 0 := by omega
    rw [a0, c0]
    clear a0 c0
    have a1 : (x + 1 * 4) / 2 % 16 = x / 2 % 16 + 2 := by omega
    have c1 : 0 ≤ x / 2 % 16 ∧ x / 2 % 16 < 2 := by omega
    rw [a1]
    clear a1
    generalize x / 2 % 16 = y1 at *
    have a2 : (x + 1 * 4) / 32 % 64 = 0 := by omega
    have c2 : x / 32 % 64 = 0 := by omega
    rw [a2, c2]
    clear a2 c2
    have a3 : (x + 1 * 4) / 4096 % 2 = 0 := by omega
    have c3 : x / 4096 % 2 = 0 := by omega
    rw [a3, c3]
    clear a3 c3
    clear x0 x1
    exact ⟨by omega, by omega, by omega, by omega⟩
theorem stepB3 (im base : Int) (b0 : 0 ≤ base) (b1 : base < 33554432) (b2 : base / 128 % 32 = 0) : 0 ≤ layF 4 (im % 8) ∧ base + layF 4 (im % 8) < 4294967296 ∧ (base + layF 4 (im % 8)) / 1024 % 2 = 0 ∧
    layF 4 (im % 16) = layF 4 (im % 8) + bitT im 3 % 2 * 1024 := by
  have e := mod_step im 3 8 16 (by decide) (by decide)
  have hb := bitT_bd im 3
  have hx : 0 ≤ im % 8 ∧ im % 8 < 8 := by omega
  rw [e]
  generalize im % 8 = x at *
  generalize bitT im 3 = b at *
  have l1 : layF 4 x = x / 2048 % 2 * 128 + x / 2 % 16 * 256 + x / 32 % 64 * 33554432 + x / 4096 % 2 * 2147483648 := rfl
  have l2 : layF 4 (x + b * 8) = (x + b * 8) / 2048 % 2 * 128 + (x + b * 8) / 2 % 16 * 256 + (x + b * 8) / 32 % 64 * 33554432 + (x + b * 8) / 4096 % 2 * 2147483648 := rfl
  rw [l1, l2]
  obtain ⟨x0, x1⟩ := hx
  rcases hb with rfl | rfl
  · have a0 : (x + 0 * 8) / 2048 % 2 = 0 := by omega
    have c0 : x / 2048 % 2 = 0 := by omega
    rw [a0, c0]
    clear a0 c0
    have a1 : (x + 0 * 8) / 2 % 16 = x / 2 % 16 + 0 := by omega
    have c1 : 0 ≤ x / 2 % 16 ∧ x / 2 % 16 < 4 := by omega
    rw [a1]
    clear a1
    generalize x / 2 % 16 = y1 at *
    have a2 : (x + 0 * 8) / 32 % 64 = 0 := by omega
    have c2 : x / 32 % 64 = 0 := by omega
    rw [a2, c2]
    clear a2 c2
    have a3 : (x + 0 * 8) / 4096 % 2 = 0 := by omega
    have c3 : x / 4096 % 2 = 0 := by omega
    rw [a3, c3]
    clear a3 c3
    clear x0 x1
    exact ⟨by omega, by omega, by omega, by omega⟩
  · have a0 : (x + 1 * 8) / 2048 % 2 = 0 := by omega
    have c0 : x / 2048 % 2 = 0 := by omega
    rw [a0, c0]
    clear a0 c0
    have a1 : (x + 1 * 8) / 2 % 16 = x / 2 % 16 + 4 := by omega
    have c1 : 0 ≤ x / 2 % 16 ∧ x / 2 % 16 < 4 := by omega
    rw [a1]
    clear a1
    generalize x / 2 % 16 = y1 at *
    have a2 : (x + 1 * 8) / 32 % 64 = 0 := by omega
    have c2 : x / 32 % 64 = 0 := by omega
    rw [a2, c2]
    clear a2 c2
    have a3 : (x + 1 * 8) / 4096 % 2 = 0 := by omega
    have c3 : x / 4096 % 2 = 0 := by omega
    rw [a3, c3]
    clear a3 c3
    clear x0 x1
    exact ⟨by omega, by omega, by omega, by omega⟩
theorem stepB4 (im base : Int) (b0 : 0 ≤ base) (b1 : base < 33554432) (b2 : base / 128 % 32 = 0) : 0 ≤ layF 4 (im % 16) ∧ base + layF 4 (im % 16) < 4294967296 ∧ (base + layF 4 (im % 16)) / 2048 % 2 = 0 ∧
    layF 4 (im % 32) = layF 4 (im % 16) + bitT im 4 % 2 * 2048 := by
  have e := mod_step im 4 16 32 (by decide) (by decide)
  have hb := bitT_bd im 4
  have hx : 0 ≤ im % 16 ∧ im % 16 < 16 := by omega
  rw [e]
  generalize im % 16 = x at *
  generalize bitT im 4 = b at *
  have l1 : layF 4 x = x / 2048 % 2 * 128 + x / 2 % 16 * 256 + x / 32 % 64 * 33554432 + x / 4096 % 2 * 2147483648 := rfl
  have l2 : layF 4 (x + b * 16) = (x + b * 16) / 2048 % 2 * 128 + (x + b * 16) / 2 % 16 * 256 + (x + b * 16) / 32 % 64 * 33554432 + (x + b * 16) / 4096 % 2 * 2147483648 := rfl
  rw [l1, l2]
  obtain ⟨x0, x1⟩ := hx
  rcases hb with rfl | rfl
  · have a0 : (x + 0 * 16) / 2048 % 2 = 0 := by omega
    have c0 : x / 2048 % 2 = 0 := by omega
    rw [a0, c0]
    clear a0 c0
    have a1 : (x + 0 * 16) / 2 % 16 = x / 2 % 16 + 0 := by omega
    have c1 : 0 ≤ x / 2 % 16 ∧ x / 2 % 16 < 8 := by omega
    rw [a1]
    clear a1
    generalize x / 2 % 16 = y1 at *
    have a2 : (x + 0 * 16) / 32 % 64 = 0 := by omega
    have c2 : x / 32 % 64 = 0 := by omega
    rw [a2, c2]
    clear a2 c2
    have a3 : (x + 0 * 16) / 4096 % 2 = 0 := by omega
    have c3 : x / 4096 % 2 = 0 := by omega
    rw [a3, c3]
    clear a3 c3
    clear x0 x1
    exact ⟨by omega, by omega, by omega, by omega⟩
  · have a0 : (x + 1 * 16) / 2048 % 2 = 0 := by omega
    have c0 : x / 2048 % 2 = 0 := by omega
    rw [a0, c0]
    clear a0 c0
    have a1 : (x + 1 * 16) / 2 % 16 = x / 2 % 16 + 8 := by omega
    have c1 : 0 ≤ x / 2 % 16 ∧ x / 2 % 16 < 8 := by omega
    rw [a1]
    clear a1
    generalize x / 2 % 16 = y1 at *
    have a2 : (x + 1 * 16) / 32 % 64 = 0 := by omega
    have c2 : x / 32 % 64 = 0 := by omega
    rw [a2, c2]
    clear a2 c2
    have a3 : (x + 1 * 16) / 4096 % 2 = 0 := by omega
    have c3 : x / 4096 % 2 = 0 := by omega
    rw [a3, c3]
    clear a3 c3
    clear x0 x1
    exact ⟨by omega, by omega, by omega, by omega⟩
theorem stepB5 (im base : Int) (b0 : 0 ≤ base) (b1 : base < 33554432) (b2 : base / 128 % 32 = 0) : 0 ≤ layF 4 (im % 32) ∧ base + layF 4 (im % 32) < 4294967296 ∧ (base + layF 4 (im % 32)) / 33554432 % 2 = 0 ∧
    layF 4 (im % 64) = layF 4 (im % 32) + bitT im 5 % 2 * 33554432 := by
  have e := mod_step im 5 32 64 (by decide) (by decide)
  have hb := bitT_bd im 5
  have hx : 0 ≤ im % 32 ∧ im % 32 < 32 := by omega
  rw [e]
  generalize im % 32 = x at *
  generalize bitT im 5 = b at *
  have l1 : layF 4 x = x / 2048 % 2 * 128 + x / 2 % 16 * 256 + x / 32 % 64 * 33554432 + x / 4096 % 2 * 2147483648 := rfl
  have l2 : layF 4 (x + b * 32) = (x + b * 32) / 2048 % 2 * 128 + (x + b * 32) / 2 % 16 * 256 + (x + b * 32) / 32 % 64 * 33554432 + (x + b * 32) / 4096 % 2 * 2147483648 := rfl
  rw [l1, l2]
  obtain ⟨x0, x1⟩ := hx
  rcases hb with rfl | rfl
  · have a0 : (x + 0 * 32) / 2048 % 2 = 0 := by omega
    have c0 : x / 2048 % 2 = 0 := by omega
    rw [a0, c0]
    clear a0 c0
    have a1 : (x + 0 * 32) / 2 % 16 = x / 2 % 16 := by omega
    have c1 : 0 ≤ x / 2 % 16 ∧ x / 2 % 16 < 16 := by omega
    rw [a1]
    clear a1
    generalize x / 2 % 16 = y1 at *
    have a2 : (x + 0 * 32) / 32 % 64 = 0 := by omega
    have c2 : x / 32 % 64 = 0 := by omega
    rw [a2, c2]
    clear a2 c2
    have a3 : (x + 0 * 32) / 4096 % 2 = 0 := by omega
    have c3 : x / 4096 % 2 = 0 := by omega
    rw [a3, c3]
    clear a3 c3
    clear x0 x1
    exact ⟨by omega, by omega, by omega, by omega⟩
  · have a0 : (x + 1 * 32) / 2048 % 2 = 0 := by omega
    have c0 : x / 2048 % 2 = 0 := by omega
    rw [a0, c0]
    clear a0 c0
    have a1 : (x + 1 * 32) / 2 % 16 = x / 2 % 16 := by omega
    have c1 : 0 ≤ x / 2 % 16 ∧ x / 2 % 16 < 16 := by omega
    rw [a1]
    clear a1
    generalize x / 2 % 16 = y1 at *
    have a2 : (x + 1 * 32) / 32 % 64 = 1 := by omega
    have c2 : x / 32 % 64 = 0 := by omega
    rw [a2, c2]
    clear a2 c2
    have a3 : (x + 1 * 32) / 4096 % 2 = 0 := by omega
    have c3 : x / 4096 % 2 = 0 := by omega
    rw [a3, c3]
    clear a3 c3
    clear x0 x1
    exact ⟨by omega, by omega, by omega, by omega⟩
theorem stepB6 (im base : Int) (b0 : 0 ≤ base) (b1 : base < 33554432) (b2 : base / 128 % 32 = 0) : 0 ≤ layF 4 (im % 64) ∧ base + layF 4 (im % 64) < 4294967296 ∧ (base + layF 4 (im % 64)) / 67108864 % 2 = 0 ∧
    layF 4 (im % 128) = layF 4 (im % 64) + bitT im 6 % 2 * 67108864 := by
  have e := mod_step im 6 64 128 (by decide) (by decide)
  have hb := bitT_bd im 6
  have hx : 0 ≤ im % 64 ∧ im % 64 < 64 := by omega
  rw [e]
  generalize im % 64 = x at *
  generalize bitT im 6 = b at *
  have l1 : layF 4 x = x / 2048 % 2 * 128 + x / 2 % 16 * 256 + x / 32 % 64 * 33554432 + x / 4096 % 2 * 2147483648 := rfl
  have l2 : layF 4 (x + b * 64) = (x + b * 64) / 2048 % 2 * 128 + (x + b * 64) / 2 % 16 * 256 + (x + b * 64) / 32 % 64 * 33554432 + (x + b * 64) / 4096 % 2 * 2147483648 := rfl
  rw [l1, l2]
  obtain ⟨x0, x1⟩ := hx
  rcases hb with rfl | rfl
  · have a0 : (x + 0 * 64) / 2048 % 2 = 0 := by omega
    have c0 : x / 2048 % 2 = 0 := by omega
    rw [a0, c0]
    clear a0 c0
    have a1 : (x + 0 * 64) / 2 % 16 = x / 2 % 16 := by omega
    have c1 : 0 ≤ x / 2 % 16 ∧ x / 2 % 16 < 16 := by omega
    rw [a1]
    clear a1
    generalize x / 2 % 16 = y1 at *
    have a2 : (x + 0 * 64) / 32 % 64 = x / 32 % 64 + 0 := by omega
    have c2 : 0 ≤ x / 32 % 64 ∧ x / 32 % 64 < 2 := by omega
    rw [a2]
    clear a2
    generalize x / 32 % 64 = y2 at *
    have a3 : (x + 0 * 64) / 4096 % 2 = 0 := by omega
    have c3 : x / 4096 % 2 = 0 := by omega
    rw [a3, c3]
    clear a3 c3
    clear x0 x1
    exact ⟨by omega, by omega, by omega, by omega⟩
  · have a0 : (x + 1 * 64) / 2048 % 2 = 0 := by omega
    have c0 : x / 2048 % 2 = 0 := by omega
    rw [a0, c0]
    clear a0 c0
    have a1 : (x + 1 * 64) / 2 % 16 = x / 2 % 16 := by omega
    have c1 : 0 ≤ x / 2 % 16 ∧ x / 2 % 16 < 16 := by omega
    rw [a1]
    clear a1
    generalize x / 2 % 16 = y1 at *
    have a2 : (x + 1 * 64) / 32 % 64 = x / 32 % 64 + 2 := by omega
    have c2 : 0 ≤ x / 32 % 64 ∧ x / 32 % 64 < 2 := by omega
    rw [a2]
    clear a2
    generalize x / 32 % 64 = y2 at *
    have a3 : (x + 1 * 64) / 4096 % 2 = 0 := by omega
    have c3 : x / 4096 % 2 = 0 := by omega
    rw [a3, c3]
    clear a3 c3
    clear x0 x1
    exact ⟨by omega, by omega, by omega, by omega⟩
theorem stepB7 (im base : Int) (b0 : 0 ≤ base) (b1 : base < 33554432) (b2 : base / 128 % 32 = 0) : 0 ≤ layF 4 (im % 128) ∧ base + layF 4 (im % 128) < 4294967296 ∧ (base + layF 4 (im % 128)) / 134217728 % 2 = 0 ∧
    layF 4 (im % 256) = layF 4 (im % 128) + bitT im 7 % 2 * 134217728 := by
  have e := mod_step im 7 128 256 (by decide) (by decide)
  have hb := bitT_bd im 7
  have hx : 0 ≤ im % 128 ∧ im % 128 < 128 := by omega
  rw [e]
  generalize im % 128 = x at *
  generalize bitT im 7 = b at *
  have l1 : layF 4 x = x / 2048 % 2 * 128 + x / 2 % 16 * 256 + x / 32 % 64 * 33554432 + x / 4096 % 2 * 2147483648 := rfl
  have l2 : layF 4 (x + b * 128) = (x + b * 128) / 2048 % 2 * 128 + (x + b * 128) / 2 % 16 * 256 + (x + b * 128) / 32 % 64 * 33554432 + (x + b * 128) / 4096 % 2 * 2147483648 := rfl
  rw [l1, l2]
  obtain ⟨x0, x1⟩ := hx
  rcases hb with rfl | rfl
  · have a0 : (x + 0 * 128) / 2048 % 2 = 0 := by omega
    have c0 : x / 2048 % 2 = 0 := by omega
    rw [a0, c0]
    clear a0 c0
    have a1 : (x + 0 * 128) / 2 % 16 = x / 2 % 16 := by omega
    have c1 : 0 ≤ x / 2 % 16 ∧ x / 2 % 16 < 16 := by omega
    rw [a1]
    clear a1
    generalize x / 2 % 16 = y1 at *
    have a2 : (x + 0 * 128) / 32 % 64 = x / 32 % 64 + 0 := by omega
    have c2 : 0 ≤ x / 32 % 64 ∧ x / 32 % 64 < 4 := by omega
    rw [a2]
    clear a2
    generalize x / 32 % 64 = y2 at *
    have a3 : (x + 0 * 128) / 4096 % 2 = 0 := by omega
    have c3 : x / 4096 % 2 = 0 := by omega
    rw [a3, c3]
    clear a3 c3
    clear x0 x1
    exact ⟨by omega, by omega, by omega, by omega⟩
  · have a0 : (x + 1 * 128) / 2048 % 2 = 0 := by omega
    have c0 : x / 2048 % 2 = 0 := by omega
    rw [a0, c0]
    clear a0 c0
    have a1 : (x + 1 * 128) / 2 % 16 = x / 2 % 16 := by omega
    have c1 : 0 ≤ x / 2 % 16 ∧ x / 2 % 16 < 16 := by omega
    rw [a1]
    clear a1
    generalize x / 2 % 16 = y1 at *
    have a2 : (x + 1 * 128) / 32 % 64 = x / 32 % 64 + 4 := by omega
    have c2 : 0 ≤ x / 32 % 64 ∧ x / 32 % 64 < 4 := by omega
    rw [a2]
    clear a2
    generalize x / 32 % 64 = y2 at *
    have a3 : (x + 1 * 128) / 4096 % 2 = 0 := by omega
    have c3 : x / 4096 % 2 = 0 := by omega
    rw [a3, c3]
    clear a3 c3
    clear x0 x1
    exact ⟨by omega, by omega, by omega, by omega⟩
theorem stepB8 (im base : Int) (b0 : 0 ≤ base) (b1 : base < 33554432) (b2 : base / 128 % 32 = 0) : 0 ≤ layF 4 (im % 256) ∧ base + layF 4 (im % 256) < 4294967296 ∧ (base + layF 4 (im % 256)) / 268435456 % 2 = 0 ∧
    layF 4 (im % 512) = layF 4 (im % 256) + bitT im 8 % 2 * 268435456 := by
  have e := mod_step im 8 256 512 (by decide) (by decide)
  have hb := bitT_bd im 8
  have hx : 0 ≤ im % 256 ∧ im % 256 < 256 := by omega
  rw [e]
  generalize im % 256 = x at *
  generalize bitT im 8 = b at *
  have l1 : layF 4 x = x / 2048 % 2 * 128 + x / 2 % 16 * 256 + x / 32 % 64 * 33554432 + x / 4096 % 2 * 2147483648 := rfl
  have l2 : layF 4 (x + b * 256) = (x + b * 256) / 2048 % 2 * 128 + (x + b * 256) / 2 % 16 * 256 + (x + b * 256) / 32 % 64 * 33554432 + (x + b * 256) / 4096 % 2 * 2147483648 := rfl
  rw [l1, l2]
  obtain ⟨x0, x1⟩ := hx
  rcases hb with rfl | rfl
  · have a0 : (x + 0 * 256) / 2048 % 2 = 0 := by omega
    have c0 : x / 2048 % 2 = 0 := by omega
    rw [a0, c0]
    clear a0 c0
    have a1 : (x + 0 * 256) / 2 % 16 = x / 2 % 16 := by omega
    have c1 : 0 ≤ x / 2 % 16 ∧ x / 2 % 16 < 16 := by omega
    rw [a1]
    clear a1
    generalize x / 2 % 16 = y1 at *
    have a2 : (x + 0 * 256) / 32 % 64 = x / 32 % 64 + 0 := by omega
    have c2 : 0 ≤ x / 32 % 64 ∧ x / 32 % 64 < 8 := by omega
    rw [a2]
    clear a2
    generalize x / 32 % 64 = y2 at *
    have a3 : (x + 0 * 256) / 4096 % 2 = 0 := by omega
    have c3 : x / 4096 % 2 = 0 := by omega
    rw [a3, c3]
    clear a3 c3
    clear x0 x1
    exact ⟨by omega, by omega, by omega, by omega⟩
  · have a0 : (x + 1 * 256) / 2048 % 2 = 0 := by omega
    have c0 : x / 2048 % 2 = 0 := by omega
    rw [a0, c0]
    clear a0 c0
    have a1 : (x + 1 * 256) / 2 % 16 = x / 2 % 16 := by omega
    have c1 : 0 ≤ x / 2 % 16 ∧ x / 2 % 16 < 16 := by omega
    rw [a1]
    clear a1
    generalize x / 2 % 16 = y1 at *
    have a2 : (x + 1 * 256) / 32 % 64 = x / 32 % 64 + 8 := by omega
    have c2 : 0 ≤ x / 32 % 64 ∧ x / 32 % 64 < 8 := by omega
    rw [a2]
    clear a2
    generalize x / 32 % 64 = y2 at *
    have a3 : (x + 1 * 256) / 4096 % 2 = 0 := by omega
    have c3 : x / 4096 % 2 = 0 := by omega
    rw [a3, c3]
    clear a3 c3
    clear x0 x1
    exact ⟨by omega, by omega, by omega, by omega⟩
theorem stepB9 (im base : Int) (b0 : 0 ≤ base) (b1 : base < 33554432) (b2 : base / 128 % 32 = 0) : 0 ≤ layF 4 (im % 512) ∧ base + layF 4 (im % 512) < 4294967296 ∧ (base + layF 4 (im % 512)) / 536870912 % 2 = 0 ∧
    layF 4 (im % 1024) = layF 4 (im % 512) + bitT im 9 % 2 * 536870912 := by
  have e := mod_step im 9 512 1024 (by decide) (by decide)
  have hb := bitT_bd im 9
  have hx : 0 ≤ im % 512 ∧ im % 512 < 512 := by omega
  rw [e]
  generalize im % 512 = x at *
  generalize bitT im 9 = b at *
  have l1 : layF 4 x = x / 2048 % 2 * 128 + x / 2 % 16 * 256 + x / 32 % 64 * 33554432 + x / 4096 % 2 * 2147483648 := rfl
  have l2 : layF 4 (x + b * 512) = (x + b * 512) / 2048 % 2 * 128 + (x + b * 512) / 2 % 16 * 256 + (x + b * 512) / 32 % 64 * 33554432 + (x + b * 512) / 4096 % 2 * 2147483648 := rfl
  rw [l1, l2]
  obtain ⟨x0, x1⟩ := hx
  rcases hb with rfl | rfl
  · have a0 : (x + 0 * 512) / 2048 % 2 = 0 := by omega
    have c0 : x / 2048 % 2 = 0 := by omega
    rw [a0, c0]
    clear a0 c0
    have a1 : (x + 0 * 512) / 2 % 16 = x / 2 % 16 := by omega
    have c1 : 0 ≤ x / 2 % 16 ∧ x / 2 % 16 < 16 := by omega
    rw [a1]
    clear a1
    generalize x / 2 % 16 = y1 at *
    have a2 : (x + 0 * 512) / 32 % 64 = x / 32 % 64 + 0 := by omega
    have c2 : 0 ≤ x / 32 % 64 ∧ x / 32 % 64 < 16 := by omega
    rw [a2]
    clear a2
    generalize x / 32 % 64 = y2 at *
    have a3 : (x + 0 * 512) / 4096 % 2 = 0 := by omega
    have c3 : x / 4096 % 2 = 0 := by omega
    rw [a3, c3]
    clear a3 c3
    clear x0 x1
    exact ⟨by omega, by omega, by omega, by omega⟩
  · have a0 : (x + 1 * 512) / 2048 % 2 = 0 := by omega
    have c0 : x / 2048 % 2 = 0 := by omega
    rw [a0, c0]
    clear a0 c0
    have a1 : (x + 1 * 512) / 2 % 16 = x / 2 % 16 := by omega
    have c1 : 0 ≤ x / 2 % 16 ∧ x / 2 % 16 < 16 := by omega
    rw [a1]
    clear a1
    generalize x / 2 % 16 = y1 at *
    have a2 : (x + 1 * 512) / 32 % 64 = x / 32 % 64 + 16 := by omega
    have c2 : 0 ≤ x / 32 % 64 ∧ x / 32 % 64 < 16 := by omega
    rw [a2]
    clear a2
    generalize x / 32 % 64 = y2 at *
    have a3 : (x + 1 * 512) / 4096 % 2 = 0 := by omega
    have c3 : x / 4096 % 2 = 0 := by omega
    rw [a3, c3]
    clear a3 c3
    clear x0 x1
    exact ⟨by omega, by omega, by omega, by omega⟩
theorem stepB10 (im base : Int) (b0 : 0 ≤ base) (b1 : base < 33554432) (b2 : base / 128 % 32 = 0) : 0 ≤ layF 4 (im % 1024) ∧ base + layF 4 (im % 1024) < 4294967296 ∧ (base + layF 4 (im % 1024)) / 1073741824 % 2 = 0 ∧
    layF 4 (im % 2048) = layF 4 (im % 1024) + bitT im 10 % 2 * 1073741824 := by
  have e := mod_step im 10 1024 2048 (by decide) (by decide)
  have hb := bitT_bd im 10
  have hx : 0 ≤ im % 1024 ∧ im % 1024 < 1024 := by omega
  rw [e]
  generalize im % 1024 = x at *
  generalize bitT im 10 = b at *
  have l1 : layF 4 x = x / 2048 % 2 * 128 + x / 2 % 16 * 256 + x / 32 % 64 * 33554432 + x / 4096 % 2 * 2147483648 := rfl
  have l2 : layF 4 (x + b * 1024) = (x + b * 1024) / 2048 % 2 * 128 + (x + b * 1024) / 2 % 16 * 256 + (x + b * 1024) / 32 % 64 * 33554432 + (x + b * 1024) / 4096 % 2 * 2147483648 := rfl
  rw [l1, l2]
  obtain ⟨x0, x1⟩ := hx
  rcases hb with rfl | rfl
  · have a0 : (x + 0 * 1024) / 2048 % 2 = 0 := by omega
    have c0 : x / 2048 % 2 = 0 := by omega
    rw [a0, c0]
    clear a0 c0
    have a1 : (x + 0 * 1024) / 2 % 16 = x / 2 % 16 := by omega
    have c1 : 0 ≤ x / 2 % 16 ∧ x / 2 % 16 < 16 := by omega
    rw [a1]
    clear a1
    generalize x / 2 % 16 = y1 at *
    have a2 : (x + 0 * 1024) / 32 % 64 = x / 32 % 64 + 0 := by omega
    have c2 : 0 ≤ x / 32 % 64 ∧ x / 32 % 64 < 32 := by omega
    rw [a2]
    clear a2
    generalize x / 32 % 64 = y2 at *
    have a3 : (x + 0 * 1024) / 4096 % 2 = 0 := by omega
    have c3 : x / 4096 % 2 = 0 := by omega
    rw [a3, c3]
    clear a3 c3
    clear x0 x1
    exact ⟨by omega, by omega, by omega, by omega⟩
  · have a0 : (x + 1 * 1024) / 2048 % 2 = 0 := by omega
    have c0 : x / 2048 % 2 = 0 := by omega
    rw [a0, c0]
    clear a0 c0
    have a1 : (x + 1 * 1024) / 2 % 16 = x / 2 % 16 := by omega
    have c1 : 0 ≤ x / 2 % 16 ∧ x / 2 % 16 < 16 := by omega
    rw [a1]
    clear a1
    generalize x / 2 % 16 = y1 at *
    have a2 : (x + 1 * 1024) / 32 % 64 = x / 32 % 64 + 32 := by omega
    have c2 : 0 ≤ x / 32 % 64 ∧ x / 32 % 64 < 32 := by omega
    rw [a2]
    clear a2
    generalize x / 32 % 64 = y2 at *
    have a3 : (x + 1 * 1024) / 4096 % 2 = 0 := by omega
    have c3 : x / 4096 % 2 = 0 := by omega
    rw [a3, c3]
    clear a3 c3
    clear x0 x1
    exact ⟨by omega, by omega, by omega, by omega⟩
theorem stepB11 (im base : Int) (b0 : 0 ≤ base) (b1 : base < 33554432) (b2 : base / 128 % 32 = 0) : 0 ≤ layF 4 (im % 2048) ∧ base + layF 4 (im % 2048) < 4294967296 ∧ (base + layF 4 (im % 2048)) / 128 % 2 = 0 ∧
    layF 4 (im % 4096) = layF 4 (im % 2048) + bitT im 11 % 2 * 128 := by
  have e := mod_step im 11 2048 4096 (by decide) (by decide)
  have hb := bitT_bd im 11
  have hx : 0 ≤ im % 2048 ∧ im % 2048 < 2048 := by omega
  rw [e]
  generalize im % 2048 = x at *
  generalize bitT im 11 = b at *
  have l1 : layF 4 x = x / 2048 % 2 * 128 + x / 2 % 16 * 256 + x / 32 % 64 * 33554432 + x / 4096 % 2 * 2147483648 := rfl
  have l2 : layF 4 (x + b * 2048) = (x + b * 2048) / 2048 % 2 * 128 + (x + b * 2048) / 2 % 16 * 256 + (x + b * 2048) / 32 % 64 * 33554432 + (x + b * 2048) / 4096 % 2 * 2147483648 := rfl
  rw [l1, l2]
  obtain ⟨x0, x1⟩ := hx
  rcases hb with rfl | rfl
  · have a0 : (x + 0 * 2048) / 2048 % 2 = 0 := by omega
    have c0 : x / 2048 % 2 = 0 := by omega
    rw [a0, c0]
    clear a0 c0
    have a1 : (x + 0 * 2048) / 2 % 16 = x / 2 % 16 := by omega
    have c1 : 0 ≤ x / 2 % 16 ∧ x / 2 % 16 < 16 := by omega
    rw [a1]
    clear a1
    generalize x / 2 % 16 = y1 at *
    have a2 : (x + 0 * 2048) / 32 % 64 = x / 32 % 64 := by omega
    have c2 : 0 ≤ x / 32 % 64 ∧ x / 32 % 64 < 64 := by omega
    rw [a2]
    clear a2
    generalize x / 32 % 64 = y2 at *
    have a3 : (x + 0 * 2048) / 4096 % 2 = 0 := by omega
    have c3 : x / 4096 % 2 = 0 := by omega
    rw [a3, c3]
    clear a3 c3
    clear x0 x1
    exact ⟨by omega, by omega, by omega, by omega⟩
  · have a0 : (x + 1 * 2048) / 2048 % 2 = 1 := by omega
    have c0 : x / 2048 % 2 = 0 := by omega
    rw [a0, c0]
    clear a0 c0
    have a1 : (x + 1 * 2048) / 2 % 16 = x / 2 % 16 := by omega
    have c1 : 0 ≤ x / 2 % 16 ∧ x / 2 % 16 < 16 := by omega
    rw [a1]
    clear a1
    generalize x / 2 % 16 = y1 at *
    have a2 : (x + 1 * 2048) / 32 % 64 = x / 32 % 64 := by omega
    have c2 : 0 ≤ x / 32 % 64 ∧ x / 32 % 64 < 64 := by omega
    rw [a2]
    clear a2
    generalize x / 32 % 64 = y2 at *
    have a3 : (x + 1 * 2048) / 4096 % 2 = 0 := by omega
    have c3 : x / 4096 % 2 = 0 := by omega
    rw [a3, c3]
    clear a3 c3
    clear x0 x1
    exact ⟨by omega, by omega, by omega, by omega⟩
theorem stepB12 (im base : Int) (b0 : 0 ≤ base) (b1 : base < 33554432) (b2 : base / 128 % 32 = 0) : 0 ≤ layF 4 (im % 4096) ∧ base + layF 4 (im % 4096) < 4294967296 ∧ (base + layF 4 (im % 4096)) / 2147483648 % 2 = 0 ∧
    layF 4 (im % 8192) = layF 4 (im % 4096) + bitT im 12 % 2 * 2147483648 := by
  have e := mod_step im 12 4096 8192 (by decide) (by decide)
  have hb := bitT_bd im 12
  have hx : 0 ≤ im % 4096 ∧ im % 4096 < 4096 := by omega
  rw [e]
  generalize im % 4096 = x at *
  generalize bitT im 12 = b at *
  have l1 : layF 4 x = x / 2048 % 2 * 128 + x / 2 % 16 * 256 + x / 32 % 64 * 33554432 + x / 4096 % 2 * 2147483648 := rfl
  have l2 : layF 4 (x + b * 4096) = (x + b * 4096) / 2048 % 2 * 128 + (x + b * 4096) / 2 % 16 * 256 + (x + b * 4096) / 32 % 64 * 33554432 + (x + b * 4096) / 4096 % 2 * 2147483648 := rfl
  rw [l1, l2]
  obtain ⟨x0, x1⟩ := hx
  rcases hb with rfl | rfl
  · have a0 : (x + 0 * 4096) / 2048 % 2 = x / 2048 % 2 := by omega
    have c0 : 0 ≤ x / 2048 % 2 ∧ x / 2048 % 2 < 2 := by omega
    rw [a0]
    clear a0
    generalize x / 2048 % 2 = y0 at *
    have a1 : (x + 0 * 4096) / 2 % 16 = x / 2 % 16 := by omega
    have c1 : 0 ≤ x / 2 % 16 ∧ x / 2 % 16 < 16 := by omega
    rw [a1]
    clear a1
    generalize x / 2 % 16 = y1 at *
    have a2 : (x + 0 * 4096) / 32 % 64 = x / 32 % 64 := by omega
    have c2 : 0 ≤ x / 32 % 64 ∧ x / 32 % 64 < 64 := by omega
    rw [a2]
    clear a2
    generalize x / 32 % 64 = y2 at *
    have a3 : (x + 0 * 4096) / 4096 % 2 = 0 := by omega
    have c3 : x / 4096 % 2 = 0 := by omega
    rw [a3, c3]
    clear a3 c3
    clear x0 x1
    exact ⟨by omega, by omega, by omega, by omega⟩
  · have a0 : (x + 1 * 4096) / 2048 % 2 = x / 2048 % 2 := by omega
    have c0 : 0 ≤ x / 2048 % 2 ∧ x / 2048 % 2 < 2 := by omega
    rw [a0]
    clear a0
    generalize x / 2048 % 2 = y0 at *
    have a1 : (x + 1 * 4096) / 2 % 16 = x / 2 % 16 := by omega
    have c1 : 0 ≤ x / 2 % 16 ∧ x / 2 % 16 < 16 := by omega
    rw [a1]
    clear a1
    generalize x / 2 % 16 = y1 at *
    have a2 : (x + 1 * 4096) / 32 % 64 = x / 32 % 64 := by omega
    have c2 : 0 ≤ x / 32 % 64 ∧ x / 32 % 64 < 64 := by omega
    rw [a2]
    clear a2
    generalize x / 32 % 64 = y2 at *
    have a3 : (x + 1 * 4096) / 4096 % 2 = 1 := by omega
    have c3 : x / 4096 % 2 = 0 := by omega
    rw [a3, c3]
    clear a3 c3
    clear x0 x1
    exact ⟨by omega, by omega, by omega, by omega⟩
def atB (k : Nat) : Nat := if k = 12 then 31 else if k = 11 then 7 else if 4 < k then 20 + k else 7 + k
theorem stepB (im base : Int) (k : Nat) (b0 : 0 ≤ base) (b1 : base < 33554432) (b2 : base / 128 % 32 = 0) (h0 : 1 ≤ k) (h1 : k ≤ 12) : 0 ≤ layF 4 (im % 2 ^ k) ∧ base + layF 4 (im % 2 ^ k) < 4294967296 ∧ (base + layF 4 (im % 2 ^ k)) / 2 ^ atB k % 2 ^ 1 = 0 ∧
    layF 4 (im % 2 ^ (k + 1)) = layF 4 (im % 2 ^ k) + bitT im k % 2 ^ 1 * 2 ^ atB k := by
  rcases (show k = 1 ∨ k = 2 ∨ k = 3 ∨ k = 4 ∨ k = 5 ∨ k = 6 ∨ k = 7 ∨ k = 8 ∨ k = 9 ∨ k = 10 ∨ k = 11 ∨ k = 12 by omega) with rfl | rfl | rfl | rfl | rfl | rfl | rfl | rfl | rfl | rfl | rfl | rfl
  · exact stepB1 im base b0 b1 b2
  · exact stepB2 im base b0 b1 b2
  · exact stepB3 im base b0 b1 b2
  · exact stepB4 im base b0 b1 b2
  · exact stepB5 im base b0 b1 b2
  · exact stepB6 im base b0 b1 b2
  · exact stepB7 im base b0 b1 b2
  · exact stepB8 im base b0 b1 b2
  · exact stepB9 im base b0 b1 b2
  · exact stepB10 im base b0 b1 b2
  · exact stepB11 im base b0 b1 b2
  · exact stepB12 im base b0 b1 b2
theorem fullB (im : Int) : layF 4 (im % 2 ^ 13) = layF 4 im := by
  have l1 : layF 4 im = im / 2048 % 2 * 128 + im / 2 % 16 * 256 + im / 32 % 64 * 33554432 + im / 4096 % 2 * 2147483648 := rfl
  have l2 : layF 4 (im % 2 ^ 13) = (im % 8192) / 2048 % 2 * 128 + (im % 8192) / 2 % 16 * 256 + (im % 8192) / 32 % 64 * 33554432 + (im % 8192) / 4096 % 2 * 2147483648 := rfl
  rw [l1, l2]
  omega
theorem stepS5 (im base : Int) (b0 : 0 ≤ base) (b1 : base < 33554432) (b2 : base / 128 % 32 = 0) : 0 ≤ layF 5 (im % 32) ∧ base + layF 5 (im % 32) < 4294967296 ∧ (base + layF 5 (im % 32)) / 33554432 % 2 = 0 ∧
    layF 5 (im % 64) = layF 5 (im % 32) + bitT im 5 % 2 * 33554432 := by
  have e := mod_step im 5 32 64 (by decide) (by decide)
  have hb := bitT_bd im 5
  have hx : 0 ≤ im % 32 ∧ im % 32 < 32 := by omega
  rw [e]
  generalize im % 32 = x at *
  generalize bitT im 5 = b at *
  have l1 : layF 5 x = x % 32 * 128 + x / 32 % 128 * 33554432 := rfl
  have l2 : layF 5 (x + b * 32) = (x + b * 32) % 32 * 128 + (x + b * 32) / 32 % 128 * 33554432 := rfl
  rw [l1, l2]
  obtain ⟨x0, x1⟩ := hx
  rcases hb with rfl | rfl
  · have a0 : (x + 0 * 32) % 32 = x % 32 := by omega
    have c0 : 0 ≤ x % 32 ∧ x % 32 < 32 := by omega
    rw [a0]
    clear a0
    generalize x % 32 = y0 at *
    have a1 : (x + 0 * 32) / 32 % 128 = 0 := by omega
    have c1 : x / 32 % 128 = 0 := by omega
    rw [a1, c1]
    clear a1 c1
    clear x0 x1
    exact ⟨by omega, by omega, by omega, by omega⟩
  · have a0 : (x + 1 * 32) % 32 = x % 32 := by omega
    have c0 : 0 ≤ x % 32 ∧ x % 32 < 32 := by omega
    rw [a0]
    clear a0
    generalize x % 32 = y0 at *
    have a1 : (x + 1 * 32) / 32 % 128 = 1 := by omega
    have c1 : x / 32 % 128 = 0 := by omega
    rw [a1, c1]
    clear a1 c1
    clear x0 x1
    exact ⟨by omega, by omega, by omega, by omega⟩
theorem stepS6 (im base : Int) (b0 : 0 ≤ base) (b1 : base < 33554432) (b2 : base / 128 % 32 = 0) : 0 ≤ layF 5 (im % 64) ∧ base + layF 5 (im % 64) < 4294967296 ∧ (base + layF 5 (im % 64)) / 67108864 % 2 = 0 ∧
    layF 5 (im % 128) = layF 5 (im % 64) + bitT im 6 % 2 * 67108864 := by
  have e := mod_step im 6 64 128 (by decide) (by decide)
  have hb := bitT_bd im 6
  have hx : 0 ≤ im % 64 ∧ im % 64 < 64 := by omega
  rw [e]
  generalize im % 64 = x at *
  generalize bitT im 6 = b at *
  have l1 : layF 5 x = x % 32 * 128 + x / 32 % 128 * 33554432 := rfl
  have l2 : layF 5 (x + b * 64) = (x + b * 64) % 32 * 128 + (x + b * 64) / 32 % 128 * 33554432 := rfl
  rw [l1, l2]
  obtain ⟨x0, x1⟩ := hx
  rcases hb with rfl | rfl
  · have a0 : (x + 0 * 64) % 32 = x % 32 := by omega
    have c0 : 0 ≤ x % 32 ∧ x % 32 < 32 := by omega
    rw [a0]
    clear a0
    generalize x % 32 = y0 at *
    have a1 : (x + 0 * 64) / 32 % 128 = x / 32 % 128 + 0 := by omega
    have c1 : 0 ≤ x / 32 % 128 ∧ x / 32 % 128 < 2 := by omega
    rw [a1]
    clear a1
    generalize x / 32 % 128 = y1 at *
    clear x0 x1
    exact ⟨by omega, by omega, by omega, by omega⟩
  · have a0 : (x + 1 * 64) % 32 = x % 32 := by omega
    have c0 : 0 ≤ x % 32 ∧ x % 32 < 32 := by omega
    rw [a0]
    clear a0
    generalize x % 32 = y0 at *
    have a1 : (x + 1 * 64) / 32 % 128 = x / 32 % 128 + 2 := by omega
    have c1 : 0 ≤ x / 32 % 128 ∧ x / 32 % 128 < 2 := by omega
    rw [a1]
    clear a1
    generalize x / 32 % 128 = y1 at *
    clear x0 x1
    exact ⟨by omega, by omega, by omega, by omega⟩
theorem stepS7 (im base : Int) (b0 : 0 ≤ base) (b1 : base < 33554432) (b2 : base / 128 % 32 = 0) : 0 ≤ layF 5 (im % 128) ∧ base + layF 5 (im % 128) < 4294967296 ∧ (base + layF 5 (im % 128)) / 134217728 % 2 = 0 ∧
    layF 5 (im % 256) = layF 5 (im % 128) + bitT im 7 % 2 * 134217728 := by
  have e := mod_step im 7 128 256 (by decide) (by decide)
  have hb := bitT_bd im 7
  have hx : 0 ≤ im % 128 ∧ im % 128 < 128 := by omega
  rw [e]
  generalize im % 128 = x at *
  generalize bitT im 7 = b at *
  have l1 : layF 5 x = x % 32 * 128 + x / 32 % 128 * 33554432 := rfl
  have l2 : layF 5 (x + b * 128) = (x + b * 128) % 32 * 128 + (x + b * 128) / 32 % 128 * 33554432 := rfl
  rw [l1, l2]
  obtain ⟨x0, x1⟩ := hx
  rcases hb with rfl | rfl
  · have a0 : (x + 0 * 128) % 32 = x % 32 := by omega
    have c0 : 0 ≤ x % 32 ∧ x % 32 < 32 := by omega
    rw [a0]
    clear a0
    generalize x % 32 = y0 at *
    have a1 : (x + 0 * 128) / 32 % 128 = x / 32 % 128 + 0 := by omega
    have c1 : 0 ≤ x / 32 % 128 ∧ x / 32 % 128 < 4 := by omega
    rw [a1]
    clear a1
    generalize x / 32 % 128 = y1 at *
    clear x0 x1
    exact ⟨by omega, by omega, by omega, by omega⟩
  · have a0 : (x + 1 * 128) % 32 = x % 32 := by omega
    have c0 : 0 ≤ x % 32 ∧ x % 32 < 32 := by omega
    rw [a0]
    clear a0
    generalize x % 32 = y0 at *
    have a1 : (x + 1 * 128) / 32 % 128 = x / 32 % 128 + 4 := by omega
    have c1 : 0 ≤ x / 32 % 128 ∧ x / 32 % 128 < 4 := by omega
    rw [a1]
    clear a1
    generalize x / 32 % 128 = y1 at *
    clear x0 x1
    exact ⟨by omega, by omega, by omega, by omega⟩
theorem stepS8 (im base : Int) (b0 : 0 ≤ base) (b1 : base < 33554432) (b2 : base / 128 % 32 = 0) : 0 ≤ layF 5 (im % 256) ∧ base + layF 5 (im % 256) < 4294967296 ∧ (base + layF 5 (im % 256)) / 268435456 % 2 = 0 ∧
    layF 5 (im % 512) = layF 5 (im % 256) + bitT im 8 % 2 * 268435456 := by
  have e := mod_step im 8 256 512 (by decide) (by decide)
  have hb := bitT_bd im 8
  have hx : 0 ≤ im % 256 ∧ im % 256 < 256 := by omega
  rw [e]
  generalize im % 256 = x at *
  generalize bitT im 8 = b at *
  have l1 : layF 5 x = x % 32 * 128 + x / 32 % 128 * 33554432 := rfl
  have l2 : layF 5 (x + b * 256) = (x + b * 256) % 32 * 128 + (x + b * 256) / 32 % 128 * 33554432 := rfl
  rw [l1, l2]
  obtain ⟨x0, x1⟩ := hx
  rcases hb with rfl | rfl
  · have a0 : (x + 0 * 256) % 32 = x % 32 := by omega
    have c0 : 0 ≤ x % 32 ∧ x % 32 < 32 := by omega
    rw [a0]
    clear a0
    generalize x % 32 = y0 at *
    have a1 : (x + 0 * 256) / 32 % 128 = x / 32 % 128 + 0 := by omega
    have c1 : 0 ≤ x / 32 % 128 ∧ x / 32 % 128 < 8 := by omega
    rw [a1]
    clear a1
    generalize x / 32 % 128 = y1 at *
    clear x0 x1
    exact ⟨by omega, by omega, by omega, by omega⟩
  · have a0 : (x + 1 * 256) % 32 = x % 32 := by omega
    have c0 : 0 ≤ x % 32 ∧ x % 32 < 32 := by omega
    rw [a0]
    clear a0
    generalize x % 32 = y0 at *
    have a1 : (x + 1 * 256) / 32 % 128 = x / 32 % 128 + 8 := by omega
    have c1 : 0 ≤ x / 32 % 128 ∧ x / 32 % 128 < 8 := by omega
    rw [a1]
    clear a1
    generalize x / 32 % 128 = y1 at *
    clear x0 x1
    exact ⟨by omega, by omega, by omega, by omega⟩
theorem stepS9 (im base : Int) (b0 : 0 ≤ base) (b1 : base < 33554432) (b2 : base / 128 % 32 = 0) : 0 ≤ layF 5 (im % 512) ∧ base + layF 5 (im % 512) < 4294967296 ∧ (base + layF 5 (im % 512)) / 536870912 % 2 = 0 ∧
    layF 5 (im % 1024) = layF 5 (im % 512) + bitT im 9 % 2 * 536870912 := by
  have e := mod_step im 9 512 1024 (by decide) (by decide)
  have hb := bitT_bd im 9
  have hx : 0 ≤ im % 512 ∧ im % 512 < 512 := by omega
  rw [e]
  generalize im % 512 = x at *
  generalize bitT im 9 = b at *
  have l1 : layF 5 x = x % 32 * 128 + x / 32 % 128 * 33554432 := rfl
  have l2 : layF 5 (x + b * 512) = (x + b * 512) % 32 * 128 + (x + b * 512) / 32 % 128 * 33554432 := rfl
  rw [l1, l2]
  obtain ⟨x0, x1⟩ := hx
  rcases hb with rfl | rfl
  · have a0 : (x + 0 * 512) % 32 = x % 32 := by omega
    have c0 : 0 ≤ x % 32 ∧ x % 32 < 32 := by omega
    rw [a0]
    clear a0
    generalize x % 32 = y0 at *
    have a1 : (x + 0 * 512) / 32 % 128 = x / 32 % 128 + 0 := by omega
    have c1 : 0 ≤ x / 32 % 128 ∧ x / 32 % 128 < 16 := by omega
    rw [a1]
    clear a1
    generalize x / 32 % 128 = y1 at *
    clear x0 x1
    exact ⟨by omega, by omega, by omega, by omega⟩
  · have a0 : (x + 1 * 512) % 32 = x % 32 := by omega
    have c0 : 0 ≤ x % 32 ∧ x % 32 < 32 := by omega
    rw [a0]
    clear a0
    generalize x % 32 = y0 at *
    have a1 : (x + 1 * 512) / 32 % 128 = x / 32 % 128 + 16 := by omega
    have c1 : 0 ≤ x / 32 % 128 ∧ x / 32 % 128 < 16 := by omega
    rw [a1]
    clear a1
    generalize x / 32 % 128 = y1 at *
    clear x0 x1
    exact ⟨by omega, by omega, by omega, by omega⟩
theorem stepS10 (im base : Int) (b0 : 0 ≤ base) (b1 : base < 33554432) (b2 : base / 128 % 32 = 0) : 0 ≤ layF 5 (im % 1024) ∧ base + layF 5 (im % 1024) < 4294967296 ∧ (base + layF 5 (im % 1024)) / 1073741824 % 2 = 0 ∧
    layF 5 (im % 2048) = layF 5 (im % 1024) + bitT im 10 % 2 * 1073741824 := by
  have e := mod_step im 10 1024 2048 (by decide) (by decide)
  have hb := bitT_bd im 10
  have hx : 0 ≤ im % 1024 ∧ im % 1024 < 1024 := by omega
  rw [e]
  generalize im % 1024 = x at *
  generalize bitT im 10 = b at *
  have l1 : layF 5 x = x % 32 * 128 + x / 32 % 128 * 33554432 := rfl
  have l2 : layF 5 (x + b * 1024) = (x + b * 1024) % 32 * 128 + (x + b * 1024) / 32 % 128 * 33554432 := rfl
  rw [l1, l2]
  obtain ⟨x0, x1⟩ := hx
  rcases hb with rfl | rfl
  · have a0 : (x + 0 * 1024) % 32 = x % 32 := by omega
    have c0 : 0 ≤ x % 32 ∧ x % 32 < 32 := by omega
    rw [a0]
    clear a0
    generalize x % 32 = y0 at *
    have a1 : (x + 0 * 1024) / 32 % 128 = x / 32 % 128 + 0 := by omega
    have c1 : 0 ≤ x / 32 % 128 ∧ x / 32 % 128 < 32 := by omega
    rw [a1]
    clear a1
    generalize x / 32 % 128 = y1 at *
    clear x0 x1
    exact ⟨by omega, by omega, by omega, by omega⟩
  · have a0 : (x + 1 * 1024) % 32 = x % 32 := by omega
    have c0 : 0 ≤ x % 32 ∧ x % 32 < 32 := by omega
    rw [a0]
    clear a0
    generalize x % 32 = y0 at *
    have a1 : (x + 1 * 1024) / 32 % 128 = x / 32 % 128 + 32 := by omega
    have c1 : 0 ≤ x / 32 % 128 ∧ x / 32 % 128 < 32 := by omega
    rw [a1]
    clear a1
    generalize x / 32 % 128 = y1 at *
    clear x0 x1
    exact ⟨by omega, by omega, by omega, by omega⟩
theorem stepS11 (im base : Int) (b0 : 0 ≤ base) (b1 : base < 33554432) (b2 : base / 128 % 32 = 0) : 0 ≤ layF 5 (im % 2048) ∧ base + layF 5 (im % 2048) < 4294967296 ∧ (base + layF 5 (im % 2048)) / 2147483648 % 2 = 0 ∧
    layF 5 (im % 4096) = layF 5 (im % 2048) + bitT im 11 % 2 * 2147483648 := by
  have e := mod_step im 11 2048 4096 (by decide) (by decide)
  have hb := bitT_bd im 11
  have hx : 0 ≤ im % 2048 ∧ im % 2048 < 2048 := by omega
  rw [e]
  generalize im % 2048 = x at *
  generalize bitT im 11 = b at *
  have l1 : layF 5 x = x % 32 * 128 + x / 32 % 128 * 33554432 := rfl
  have l2 : layF 5 (x + b * 2048) = (x + b * 2048) % 32 * 128 + (x + b * 2048) / 32 % 128 * 33554432 := rfl
  rw [l1, l2]
  obtain ⟨x0, x1⟩ := hx
  rcases hb with rfl | rfl
  · have a0 : (x + 0 * 2048) % 32 = x % 32 := by omega
    have c0 : 0 ≤ x % 32 ∧ x % 32 < 32 := by omega
    rw [a0]
    clear a0
    generalize x % 32 = y0 at *
    have a1 : (x + 0 * 2048) / 32 % 128 = x / 32 % 128 + 0 := by omega
    have c1 : 0 ≤ x / 32 % 128 ∧ x / 32 % 128 < 64 := by omega
    rw [a1]
    clear a1
    generalize x / 32 % 128 = y1 at *
    clear x0 x1
    exact ⟨by omega, by omega, by omega, by omega⟩
  · have a0 : (x + 1 * 2048) % 32 = x % 32 := by omega
    have c0 : 0 ≤ x % 32 ∧ x % 32 < 32 := by omega
    rw [a0]
    clear a0
    generalize x % 32 = y0 at *
    have a1 : (x + 1 * 2048) / 32 % 128 = x / 32 % 128 + 64 := by omega
    have c1 : 0 ≤ x / 32 % 128 ∧ x / 32 % 128 < 64 := by omega
    rw [a1]
    clear a1
    generalize x / 32 % 128 = y1 at *
    clear x0 x1
    exact ⟨by omega, by omega, by omega, by omega⟩
def atS (k : Nat) : Nat := 20 + k
theorem stepS (im base : Int) (k : Nat) (b0 : 0 ≤ base) (b1 : base < 33554432) (b2 : base / 128 % 32 = 0) (h0 : 5 ≤ k) (h1 : k ≤ 11) : 0 ≤ layF 5 (im % 2 ^ k) ∧ base + layF 5 (im % 2 ^ k) < 4294967296 ∧ (base + layF 5 (im % 2 ^ k)) / 2 ^ atS k % 2 ^ 1 = 0 ∧
    layF 5 (im % 2 ^ (k + 1)) = layF 5 (im % 2 ^ k) + bitT im k % 2 ^ 1 * 2 ^ atS k := by
  rcases (show k = 5 ∨ k = 6 ∨ k = 7 ∨ k = 8 ∨ k = 9 ∨ k = 10 ∨ k = 11 by omega) with rfl | rfl | rfl | rfl | rfl | rfl | rfl
  · exact stepS5 im base b0 b1 b2
  · exact stepS6 im base b0 b1 b2
  · exact stepS7 im base b0 b1 b2
  · exact stepS8 im base b0 b1 b2
  · exact stepS9 im base b0 b1 b2
  · exact stepS10 im base b0 b1 b2
  · exact stepS11 im base b0 b1 b2
theorem fullS (im : Int) : layF 5 (im % 2 ^ 12) = layF 5 im := by
  have l1 : layF 5 im = im % 32 * 128 + im / 32 % 128 * 33554432 := rfl
  have l2 : layF 5 (im % 2 ^ 12) = (im % 4096) % 32 * 128 + (im % 4096) / 32 % 128 * 33554432 := rfl
  rw [l1, l2]
  omega
theorem zeroJ (im : Int) : layF 2 (im % 2 ^ 1) = 0 := by
  have l2 : layF 2 (im % 2 ^ 1) = (im % 2) / 4096 % 256 * 4096 + (im % 2) / 2048 % 2 * 1048576 + (im % 2) / 2 % 1024 * 2097152 + (im % 2) / 1048576 % 2 * 2147483648 := rfl
  rw [l2]
  omega
theorem zeroB (im : Int) : layF 4 (im % 2 ^ 1) = 0 := by
  have l2 : layF 4 (im % 2 ^ 1) = (im % 2) / 2048 % 2 * 128 + (im % 2) / 2 % 16 * 256 + (im % 2) / 32 % 64 * 33554432 + (im % 2) / 4096 % 2 * 2147483648 := rfl
  rw [l2]
  omega
theorem zeroS (im : Int) : layF 5 (im % 2 ^ 5) = im % 32 * 128 := by
  have l2 : layF 5 (im % 2 ^ 5) = (im % 32) % 32 * 128 + (im % 32) / 32 % 128 * 33554432 := rfl
  rw [l2]
  omega
end Go.Proofs.YtdbngfeelfgbeaaGreatDoor

namespace Go.Proofs.YtdbngfeelfgbeaaGreatDoor
open Go.RowKit
set_option linter.unusedVariables false

end Go.Proofs.YtdbngfeelfgbeaaGreatDoor

namespace Go.Proofs.YtdbngfeelfgbeaaGreatDoor
open Go.RowKit
set_option linter.unusedVariables false

theorem putStep (word v : Int) (low count k : Nat) (hw : 0 ≤ word) (hz : word / 2 ^ low % 2 ^ count = 0) :
    putT word v low count / 2 ^ k = 2 * (putT word v low count / 2 ^ (k + 1)) + (if low ≤ k ∧ k < low + count then bitT v (k - low) else bitT word k) := by
  rw [← put_bit word v low count k hw hz]
  exact int_half _ k

end Go.Proofs.YtdbngfeelfgbeaaGreatDoor

namespace Go.Proofs.YtdbngfeelfgbeaaGreatDoor
open Go.RowKit
set_option linter.unusedVariables false

theorem sh6 (op : Int) (h0 : 1 ≤ op) (h1 : op ≤ 64) : (shT op).1 = 6 → (shT op).2.2.2 % 2 = 0 := by
  obtain ⟨k, rfl⟩ := Int.eq_ofNat_of_zero_le (show 0 ≤ op by omega)
  have hk : k < 65 := by omega
  have hk0 : 1 ≤ k := by omega
  have key : ∀ j : Nat, j < 65 → 1 ≤ j → (shT (j : Int)).1 = 6 → (shT (j : Int)).2.2.2 % 2 = 0 := by decide +kernel
  exact key k hk hk0
end Go.Proofs.YtdbngfeelfgbeaaGreatDoor

namespace Go.Proofs.YtdbngfeelfgbeaaGreatDoor
open Go.RowKit
set_option linter.unusedVariables false

end Go.Proofs.YtdbngfeelfgbeaaGreatDoor

namespace Go.Proofs.YtdbngfeelfgbeaaGreatDoor
open Go.RowKit
set_option linter.unusedVariables false

end Go.Proofs.YtdbngfeelfgbeaaGreatDoor

namespace Go.Proofs.YtdbngfeelfgbeaaGreatDoor
open Go.RowKit
set_option linter.unusedVariables false

end Go.Proofs.YtdbngfeelfgbeaaGreatDoor

namespace Go.Proofs.YtdbngfeelfgbeaaGreatDoor
open Go.RowKit
set_option linter.unusedVariables false

end Go.Proofs.YtdbngfeelfgbeaaGreatDoor

namespace Go.Proofs.YtdbngfeelfgbeaaGreatDoor
open Go.RowKit
set_option linter.unusedVariables false

end Go.Proofs.YtdbngfeelfgbeaaGreatDoor

namespace Go.Proofs.YtdbngfeelfgbeaaGreatDoor
open Go.RowKit
set_option linter.unusedVariables false

end Go.Proofs.YtdbngfeelfgbeaaGreatDoor

namespace Go.Proofs.YtdbngfeelfgbeaaGreatDoor
open Go.RowKit
set_option linter.unusedVariables false

end Go.Proofs.YtdbngfeelfgbeaaGreatDoor

namespace Go.Proofs.YtdbngfeelfgbeaaGreatDoor
open Go.RowKit
set_option linter.unusedVariables false

end Go.Proofs.YtdbngfeelfgbeaaGreatDoor

namespace Go.Proofs.YtdbngfeelfgbeaaGreatDoor
open Go.RowKit
set_option linter.unusedVariables false

end Go.Proofs.YtdbngfeelfgbeaaGreatDoor

namespace Go.Proofs.YtdbngfeelfgbeaaGreatDoor
open Go.RowKit
set_option linter.unusedVariables false

theorem sh_more {f c g h : Int} (hs : shOK f c g h = true) : (f = 1 → g = 0 ∧ h = 0) ∧ (f = 2 → g = 0 ∧ h = 0) ∧ (f = 3 → h = 0) ∧ (f = 4 → h = 0) ∧ (f = 5 → h = 0) ∧ (f = 9 → g = 0) := by
  simp only [shOK, Bool.and_eq_true, Bool.or_eq_true, decide_eq_true_eq] at hs
  obtain ⟨⟨⟨⟨⟨⟨⟨⟨⟨⟨⟨⟨⟨f0, f1⟩, k0⟩, k1⟩, g0⟩, g1⟩, h0⟩, h1⟩, s1⟩, s2⟩, s3⟩, s4⟩, s5⟩, s9⟩ := hs
  exact ⟨by omega, by omega, by omega, by omega, by omega, by omega⟩

/-- The word of an instruction, 0 of what is none; the code. -/
def encT (op rd r1 r2 im : Int) : Int := if rightB op rd r1 r2 im = true then encW (shT op).1 (shT op).2.1 (shT op).2.2.1 (shT op).2.2.2 rd r1 r2 im else 0
def encE (op rd r1 r2 im : Int) : Int := if rightB op rd r1 r2 im = true then 0 else 1

theorem implEnc (op rd r1 r2 im : Int) (w : World) (hl : Laid w) :
    Calls Tryz.prog 10 #[.agg #[.int .i64 op, .int .i64 rd, .int .i64 r1, .int .i64 r2, .int .i64 im]] w fun e w' => e = .returned (.tuple #[.int .i64 (encT op rd r1 r2 im), .int .i64 (encE op rd r1 r2 im)]) ∧ Below w.heap.size w w' := by
  unfold encT encE
  cases hr : rightB op rd r1 r2 im with
  | true =>
    rw [if_pos rfl, if_pos rfl]
    exact encYes op rd r1 r2 im _ _ _ _ w hl hr rfl
  | false =>
    rw [if_neg (by decide), if_neg (by decide)]
    exact encNo op rd r1 r2 im w hl hr

end Go.Proofs.YtdbngfeelfgbeaaGreatDoor

namespace Go.Proofs.YtdbngfeelfgbeaaGreatDoor
set_option linter.unusedVariables false

set_option maxHeartbeats 1000000 in
theorem fix_hit (f c g h w : Int) (hs : shOK f c g h = true) (w0 : 0 ≤ w) (w1 : w < 4294967296) : bits .and .i64 w (fixB f) = fixW f c g h ↔ hitI f c g h w := by
  obtain ⟨f0, f1, k0, k1, g0, g1, h0, h1⟩ := sh_bounds hs
  obtain ⟨m1, m2, m3, m4, m5, m9⟩ := sh_more hs
  obtain ⟨n, rfl⟩ := Int.eq_ofNat_of_zero_le w0
  have hn : n < 4294967296 := by omega
  rcases (show f = 1 ∨ f = 2 ∨ f = 3 ∨ f = 4 ∨ f = 5 ∨ f = 6 ∨ f = 7 ∨ f = 8 ∨ f = 9 by omega) with rfl | rfl | rfl | rfl | rfl | rfl | rfl | rfl | rfl
  · obtain ⟨rfl, rfl⟩ := m1 rfl
    show bits .and .i64 (n : Int) 127 = c + 0 * 4096 + 0 * 33554432 ↔ (n : Int) % 128 = c
    rw [and_127 n hn]
    omega
  · obtain ⟨rfl, rfl⟩ := m2 rfl
    show bits .and .i64 (n : Int) 127 = c + 0 * 4096 + 0 * 33554432 ↔ (n : Int) % 128 = c
    rw [and_127 n hn]
    omega
  · obtain rfl := m3 rfl
    show bits .and .i64 (n : Int) 28799 = c + g * 4096 + 0 * 33554432 ↔ (n : Int) % 128 = c ∧ (n : Int) / 4096 % 8 = g
    rw [and_28799 n hn]
    omega
  · obtain rfl := m4 rfl
    show bits .and .i64 (n : Int) 28799 = c + g * 4096 + 0 * 33554432 ↔ (n : Int) % 128 = c ∧ (n : Int) / 4096 % 8 = g
    rw [and_28799 n hn]
    omega
  · obtain rfl := m5 rfl
    show bits .and .i64 (n : Int) 28799 = c + g * 4096 + 0 * 33554432 ↔ (n : Int) % 128 = c ∧ (n : Int) / 4096 % 8 = g
    rw [and_28799 n hn]
    omega
  · show bits .and .i64 (n : Int) 4227887231 = c + g * 4096 + h / 2 * 67108864 ↔ (n : Int) % 128 = c ∧ (n : Int) / 4096 % 8 = g ∧ (n : Int) / 67108864 = h / 2
    rw [and_4227887231 n hn]
    have e : ((n % 128 + n / 4096 % 8 * 4096 + n / 67108864 * 67108864 : Nat) : Int) = (n : Int) % 128 + (n : Int) / 4096 % 8 * 4096 + (n : Int) / 67108864 * 67108864 := by omega
    rw [e]
    have p : 0 ≤ (n : Int) % 128 ∧ (n : Int) % 128 < 128 := by omega
    have q : 0 ≤ (n : Int) / 4096 % 8 ∧ (n : Int) / 4096 % 8 < 8 := by omega
    have r : 0 ≤ h / 2 := by omega
    generalize (n : Int) % 128 = x at *
    generalize (n : Int) / 4096 % 8 = y at *
    generalize (n : Int) / 67108864 = z at *
    generalize h / 2 = u at *
    omega
  · show bits .and .i64 (n : Int) 4261441663 = c + g * 4096 + h * 33554432 ↔ (n : Int) % 128 = c ∧ (n : Int) / 4096 % 8 = g ∧ (n : Int) / 33554432 = h
    rw [and_4261441663 n hn]
    have e : ((n % 128 + n / 4096 % 8 * 4096 + n / 33554432 * 33554432 : Nat) : Int) = (n : Int) % 128 + (n : Int) / 4096 % 8 * 4096 + (n : Int) / 33554432 * 33554432 := by omega
    rw [e]
    have p : 0 ≤ (n : Int) % 128 ∧ (n : Int) % 128 < 128 := by omega
    have q : 0 ≤ (n : Int) / 4096 % 8 ∧ (n : Int) / 4096 % 8 < 8 := by omega
    generalize (n : Int) % 128 = x at *
    generalize (n : Int) / 4096 % 8 = y at *
    generalize (n : Int) / 33554432 = z at *
    omega
  · show bits .and .i64 (n : Int) 4261441663 = c + g * 4096 + h * 33554432 ↔ (n : Int) % 128 = c ∧ (n : Int) / 4096 % 8 = g ∧ (n : Int) / 33554432 = h
    rw [and_4261441663 n hn]
    have e : ((n % 128 + n / 4096 % 8 * 4096 + n / 33554432 * 33554432 : Nat) : Int) = (n : Int) % 128 + (n : Int) / 4096 % 8 * 4096 + (n : Int) / 33554432 * 33554432 := by omega
    rw [e]
    have p : 0 ≤ (n : Int) % 128 ∧ (n : Int) % 128 < 128 := by omega
    have q : 0 ≤ (n : Int) / 4096 % 8 ∧ (n : Int) / 4096 % 8 < 8 := by omega
    generalize (n : Int) % 128 = x at *
    generalize (n : Int) / 4096 % 8 = y at *
    generalize (n : Int) / 33554432 = z at *
    omega
  · show bits .and .i64 (n : Int) 4294967295 = c + g * 4096 + h * 1048576 ↔ (n : Int) = c + g * 4096 + h * 1048576
    rw [and_all n hn]

theorem lay_take2 (a b c d : Int) (ha : 0 ≤ a ∧ a < 256) (hb : 0 ≤ b ∧ b < 2) (hc : 0 ≤ c ∧ c < 1024) (hd : 0 ≤ d ∧ d < 2) :
    layF 2 (sgn (a * 4096 + b * 2048 + c * 2 + d * 1048576) 21) = a * 4096 + b * 1048576 + c * 2097152 + d * 2147483648 := by
  rw [sgn_num _ 21 1048576 2097152 (by decide) (by decide)]
  have e : (a * 4096 + b * 2048 + c * 2 + d * 1048576 + 1048576) % 2097152 - 1048576 = a * 4096 + b * 2048 + c * 2 - d * 1048576 := by
    rcases (show d = 0 ∨ d = 1 by omega) with rfl | rfl <;> omega
  rw [e]
  generalize hv : a * 4096 + b * 2048 + c * 2 - d * 1048576 = v
  show v / 4096 % 256 * 4096 + v / 2048 % 2 * 1048576 + v / 2 % 1024 * 2097152 + v / 1048576 % 2 * 2147483648 = _
  have e1 : v / 4096 = a - 256 * d := by omega
  have e2 : v / 2048 = a * 2 + b - 512 * d := by omega
  have e3 : v / 2 = a * 2048 + b * 1024 + c - 524288 * d := by omega
  have e4 : v / 1048576 = -d := by omega
  rw [e1, e2, e3, e4]
  have p1 : (a - 256 * d) % 256 = a := by omega
  have p2 : (a * 2 + b - 512 * d) % 2 = b := by omega
  have p3 : (a * 2048 + b * 1024 + c - 524288 * d) % 1024 = c := by omega
  have p4 : (-d) % 2 = d := by omega
  rw [p1, p2, p3, p4]
theorem lay_take4 (a b c d : Int) (ha : 0 ≤ a ∧ a < 2) (hb : 0 ≤ b ∧ b < 16) (hc : 0 ≤ c ∧ c < 64) (hd : 0 ≤ d ∧ d < 2) :
    layF 4 (sgn (a * 2048 + b * 2 + c * 32 + d * 4096) 13) = a * 128 + b * 256 + c * 33554432 + d * 2147483648 := by
  rw [sgn_num _ 13 4096 8192 (by decide) (by decide)]
  have e : (a * 2048 + b * 2 + c * 32 + d * 4096 + 4096) % 8192 - 4096 = a * 2048 + b * 2 + c * 32 - d * 4096 := by
    rcases (show d = 0 ∨ d = 1 by omega) with rfl | rfl <;> omega
  rw [e]
  generalize hv : a * 2048 + b * 2 + c * 32 - d * 4096 = v
  show v / 2048 % 2 * 128 + v / 2 % 16 * 256 + v / 32 % 64 * 33554432 + v / 4096 % 2 * 2147483648 = _
  have e1 : v / 2048 = a - 2 * d := by omega
  have e2 : v / 2 = a * 1024 + b + c * 16 - 2048 * d := by omega
  have e3 : v / 32 = a * 64 + c - 128 * d := by omega
  have e4 : v / 4096 = -d := by omega
  rw [e1, e2, e3, e4]
  have p1 : (a - 2 * d) % 2 = a := by omega
  have p2 : (a * 1024 + b + c * 16 - 2048 * d) % 16 = b := by omega
  have p3 : (a * 64 + c - 128 * d) % 64 = c := by omega
  have p4 : (-d) % 2 = d := by omega
  rw [p1, p2, p3, p4]
theorem lay_take5 (a c : Int) (ha : 0 ≤ a ∧ a < 32) (hc : 0 ≤ c ∧ c < 128) : layF 5 (sgn (a + c * 32) 12) = a * 128 + c * 33554432 := by
  rw [sgn_num _ 12 2048 4096 (by decide) (by decide)]
  generalize hv : (a + c * 32 + 2048) % 4096 - 2048 = v
  show v % 32 * 128 + v / 32 % 128 * 33554432 = _
  have p1 : v % 32 = a := by omega
  have p2 : v / 32 % 128 = c := by omega
  rw [p1, p2]
end Go.Proofs.YtdbngfeelfgbeaaGreatDoor

namespace Go.Proofs.YtdbngfeelfgbeaaGreatDoor
set_option linter.unusedVariables false

theorem chain (w : Int) (a b : Nat) (A B C : Int) (hA : A = 2 ^ a) (hB : B = 2 ^ b) (hC : C = 2 ^ (a + b)) : w / A = w / A % B + B * (w / C) := by
  have h := Int.emod_add_mul_ediv (w / A) B
  have e : w / A / B = w / C := by
    rw [hA, hB, hC, dd _ _ (Int.le_of_lt (pow_pos a)), ← Int.pow_add]
  rw [e] at h
  exact h.symm

theorem hit1 (c w : Int) (w0 : 0 ≤ w) (w1 : w < 4294967296) : (w % 128 = c ∧ encW 1 c 0 0 (w / 128 % 32) (0) (0) (takeF 1 w) = w) ↔ (w % 128 = c) := by
  have l : layF 1 (takeF 1 w) = w / 4096 % 1048576 * 4096 := by
    show sgn (w / 4096 % 1048576 * 4096) 32 / 4096 % 1048576 * 4096 = _
    rw [sgn_num _ 32 2147483648 4294967296 (by decide) (by decide)]
    omega
  have e : encW 1 c 0 0 (w / 128 % 32) (0) (0) (takeF 1 w) = c + 0 * 4096 + 0 * 33554432 + w / 128 % 32 * 128 + 0 * 32768 + 0 * 1048576 + (w / 4096 % 1048576 * 4096) := by
    rw [← l]
    rfl
  rw [e]
  clear e l
  have d0 : w = w % 128 + 128 * (w / 128) := by omega
  have p0 : 0 ≤ w % 128 ∧ w % 128 < 128 := by omega
  have d7 : w / 128 = w / 128 % 32 + 32 * (w / 4096) := chain w 7 5 128 32 4096 (by decide) (by decide) (by decide)
  have p7 : 0 ≤ w / 128 % 32 ∧ w / 128 % 32 < 32 := by omega
  have d12 : w / 4096 = w / 4096 % 1048576 := by omega
  have p12 : 0 ≤ w / 4096 % 1048576 ∧ w / 4096 % 1048576 < 1048576 := by omega
  generalize w % 128 = x0 at *
  generalize w / 128 % 32 = x7 at *
  generalize w / 4096 % 1048576 = x12 at *
  generalize w / 128 = q7 at *
  generalize w / 4096 = q12 at *
  omega
theorem hit2 (c w : Int) (w0 : 0 ≤ w) (w1 : w < 4294967296) : (w % 128 = c ∧ encW 2 c 0 0 (w / 128 % 32) (0) (0) (takeF 2 w) = w) ↔ (w % 128 = c) := by
  have l : layF 2 (takeF 2 w) = w / 4096 % 256 * 4096 + w / 1048576 % 2 * 1048576 + w / 2097152 % 1024 * 2097152 + w / 2147483648 % 2 * 2147483648 :=
    lay_take2 (w / 4096 % 256) (w / 1048576 % 2) (w / 2097152 % 1024) (w / 2147483648 % 2) (by omega) (by omega) (by omega) (by omega)
  have e : encW 2 c 0 0 (w / 128 % 32) (0) (0) (takeF 2 w) = c + 0 * 4096 + 0 * 33554432 + w / 128 % 32 * 128 + 0 * 32768 + 0 * 1048576 + (w / 4096 % 256 * 4096 + w / 1048576 % 2 * 1048576 + w / 2097152 % 1024 * 2097152 + w / 2147483648 % 2 * 2147483648) := by
    rw [← l]
    rfl
  rw [e]
  clear e l
  have d0 : w = w % 128 + 128 * (w / 128) := by omega
  have p0 : 0 ≤ w % 128 ∧ w % 128 < 128 := by omega
  have d7 : w / 128 = w / 128 % 32 + 32 * (w / 4096) := chain w 7 5 128 32 4096 (by decide) (by decide) (by decide)
  have p7 : 0 ≤ w / 128 % 32 ∧ w / 128 % 32 < 32 := by omega
  have d12 : w / 4096 = w / 4096 % 256 + 256 * (w / 1048576) := chain w 12 8 4096 256 1048576 (by decide) (by decide) (by decide)
  have p12 : 0 ≤ w / 4096 % 256 ∧ w / 4096 % 256 < 256 := by omega
  have d20 : w / 1048576 = w / 1048576 % 2 + 2 * (w / 2097152) := chain w 20 1 1048576 2 2097152 (by decide) (by decide) (by decide)
  have p20 : 0 ≤ w / 1048576 % 2 ∧ w / 1048576 % 2 < 2 := by omega
  have d21 : w / 2097152 = w / 2097152 % 1024 + 1024 * (w / 2147483648) := chain w 21 10 2097152 1024 2147483648 (by decide) (by decide) (by decide)
  have p21 : 0 ≤ w / 2097152 % 1024 ∧ w / 2097152 % 1024 < 1024 := by omega
  have d31 : w / 2147483648 = w / 2147483648 % 2 := by omega
  have p31 : 0 ≤ w / 2147483648 % 2 ∧ w / 2147483648 % 2 < 2 := by omega
  generalize w % 128 = x0 at *
  generalize w / 128 % 32 = x7 at *
  generalize w / 4096 % 256 = x12 at *
  generalize w / 1048576 % 2 = x20 at *
  generalize w / 2097152 % 1024 = x21 at *
  generalize w / 2147483648 % 2 = x31 at *
  generalize w / 128 = q7 at *
  generalize w / 4096 = q12 at *
  generalize w / 1048576 = q20 at *
  generalize w / 2097152 = q21 at *
  generalize w / 2147483648 = q31 at *
  omega
theorem hit3 (c g w : Int) (w0 : 0 ≤ w) (w1 : w < 4294967296) : (w % 128 = c ∧ w / 4096 % 8 = g ∧ encW 3 c g 0 (w / 128 % 32) (w / 32768 % 32) (0) (takeF 3 w) = w) ↔ (w % 128 = c ∧ w / 4096 % 8 = g) := by
  have l : layF 3 (takeF 3 w) = w / 1048576 % 4096 * 1048576 := by
    show sgn (w / 1048576 % 4096) 12 % 4096 * 1048576 = _
    rw [sgn_num _ 12 2048 4096 (by decide) (by decide)]
    omega
  have e : encW 3 c g 0 (w / 128 % 32) (w / 32768 % 32) (0) (takeF 3 w) = c + g * 4096 + 0 * 33554432 + w / 128 % 32 * 128 + w / 32768 % 32 * 32768 + 0 * 1048576 + (w / 1048576 % 4096 * 1048576) := by
    rw [← l]
    rfl
  rw [e]
  clear e l
  have d0 : w = w % 128 + 128 * (w / 128) := by omega
  have p0 : 0 ≤ w % 128 ∧ w % 128 < 128 := by omega
  have d7 : w / 128 = w / 128 % 32 + 32 * (w / 4096) := chain w 7 5 128 32 4096 (by decide) (by decide) (by decide)
  have p7 : 0 ≤ w / 128 % 32 ∧ w / 128 % 32 < 32 := by omega
  have d12 : w / 4096 = w / 4096 % 8 + 8 * (w / 32768) := chain w 12 3 4096 8 32768 (by decide) (by decide) (by decide)
  have p12 : 0 ≤ w / 4096 % 8 ∧ w / 4096 % 8 < 8 := by omega
  have d15 : w / 32768 = w / 32768 % 32 + 32 * (w / 1048576) := chain w 15 5 32768 32 1048576 (by decide) (by decide) (by decide)
  have p15 : 0 ≤ w / 32768 % 32 ∧ w / 32768 % 32 < 32 := by omega
  have d20 : w / 1048576 = w / 1048576 % 4096 := by omega
  have p20 : 0 ≤ w / 1048576 % 4096 ∧ w / 1048576 % 4096 < 4096 := by omega
  generalize w % 128 = x0 at *
  generalize w / 128 % 32 = x7 at *
  generalize w / 4096 % 8 = x12 at *
  generalize w / 32768 % 32 = x15 at *
  generalize w / 1048576 % 4096 = x20 at *
  generalize w / 128 = q7 at *
  generalize w / 4096 = q12 at *
  generalize w / 32768 = q15 at *
  generalize w / 1048576 = q20 at *
  omega
theorem hit4 (c g w : Int) (w0 : 0 ≤ w) (w1 : w < 4294967296) : (w % 128 = c ∧ w / 4096 % 8 = g ∧ encW 4 c g 0 (0) (w / 32768 % 32) (w / 1048576 % 32) (takeF 4 w) = w) ↔ (w % 128 = c ∧ w / 4096 % 8 = g) := by
  have l : layF 4 (takeF 4 w) = w / 128 % 2 * 128 + w / 256 % 16 * 256 + w / 33554432 % 64 * 33554432 + w / 2147483648 % 2 * 2147483648 :=
    lay_take4 (w / 128 % 2) (w / 256 % 16) (w / 33554432 % 64) (w / 2147483648 % 2) (by omega) (by omega) (by omega) (by omega)
  have e : encW 4 c g 0 (0) (w / 32768 % 32) (w / 1048576 % 32) (takeF 4 w) = c + g * 4096 + 0 * 33554432 + 0 * 128 + w / 32768 % 32 * 32768 + w / 1048576 % 32 * 1048576 + (w / 128 % 2 * 128 + w / 256 % 16 * 256 + w / 33554432 % 64 * 33554432 + w / 2147483648 % 2 * 2147483648) := by
    rw [← l]
    rfl
  rw [e]
  clear e l
  have d0 : w = w % 128 + 128 * (w / 128) := by omega
  have p0 : 0 ≤ w % 128 ∧ w % 128 < 128 := by omega
  have d7 : w / 128 = w / 128 % 2 + 2 * (w / 256) := chain w 7 1 128 2 256 (by decide) (by decide) (by decide)
  have p7 : 0 ≤ w / 128 % 2 ∧ w / 128 % 2 < 2 := by omega
  have d8 : w / 256 = w / 256 % 16 + 16 * (w / 4096) := chain w 8 4 256 16 4096 (by decide) (by decide) (by decide)
  have p8 : 0 ≤ w / 256 % 16 ∧ w / 256 % 16 < 16 := by omega
  have d12 : w / 4096 = w / 4096 % 8 + 8 * (w / 32768) := chain w 12 3 4096 8 32768 (by decide) (by decide) (by decide)
  have p12 : 0 ≤ w / 4096 % 8 ∧ w / 4096 % 8 < 8 := by omega
  have d15 : w / 32768 = w / 32768 % 32 + 32 * (w / 1048576) := chain w 15 5 32768 32 1048576 (by decide) (by decide) (by decide)
  have p15 : 0 ≤ w / 32768 % 32 ∧ w / 32768 % 32 < 32 := by omega
  have d20 : w / 1048576 = w / 1048576 % 32 + 32 * (w / 33554432) := chain w 20 5 1048576 32 33554432 (by decide) (by decide) (by decide)
  have p20 : 0 ≤ w / 1048576 % 32 ∧ w / 1048576 % 32 < 32 := by omega
  have d25 : w / 33554432 = w / 33554432 % 64 + 64 * (w / 2147483648) := chain w 25 6 33554432 64 2147483648 (by decide) (by decide) (by decide)
  have p25 : 0 ≤ w / 33554432 % 64 ∧ w / 33554432 % 64 < 64 := by omega
  have d31 : w / 2147483648 = w / 2147483648 % 2 := by omega
  have p31 : 0 ≤ w / 2147483648 % 2 ∧ w / 2147483648 % 2 < 2 := by omega
  generalize w % 128 = x0 at *
  generalize w / 128 % 2 = x7 at *
  generalize w / 256 % 16 = x8 at *
  generalize w / 4096 % 8 = x12 at *
  generalize w / 32768 % 32 = x15 at *
  generalize w / 1048576 % 32 = x20 at *
  generalize w / 33554432 % 64 = x25 at *
  generalize w / 2147483648 % 2 = x31 at *
  generalize w / 128 = q7 at *
  generalize w / 256 = q8 at *
  generalize w / 4096 = q12 at *
  generalize w / 32768 = q15 at *
  generalize w / 1048576 = q20 at *
  generalize w / 33554432 = q25 at *
  generalize w / 2147483648 = q31 at *
  omega
theorem hit5 (c g w : Int) (w0 : 0 ≤ w) (w1 : w < 4294967296) : (w % 128 = c ∧ w / 4096 % 8 = g ∧ encW 5 c g 0 (0) (w / 32768 % 32) (w / 1048576 % 32) (takeF 5 w) = w) ↔ (w % 128 = c ∧ w / 4096 % 8 = g) := by
  have l : layF 5 (takeF 5 w) = w / 128 % 32 * 128 + w / 33554432 % 128 * 33554432 := lay_take5 (w / 128 % 32) (w / 33554432 % 128) (by omega) (by omega)
  have e : encW 5 c g 0 (0) (w / 32768 % 32) (w / 1048576 % 32) (takeF 5 w) = c + g * 4096 + 0 * 33554432 + 0 * 128 + w / 32768 % 32 * 32768 + w / 1048576 % 32 * 1048576 + (w / 128 % 32 * 128 + w / 33554432 % 128 * 33554432) := by
    rw [← l]
    rfl
  rw [e]
  clear e l
  have d0 : w = w % 128 + 128 * (w / 128) := by omega
  have p0 : 0 ≤ w % 128 ∧ w % 128 < 128 := by omega
  have d7 : w / 128 = w / 128 % 32 + 32 * (w / 4096) := chain w 7 5 128 32 4096 (by decide) (by decide) (by decide)
  have p7 : 0 ≤ w / 128 % 32 ∧ w / 128 % 32 < 32 := by omega
  have d12 : w / 4096 = w / 4096 % 8 + 8 * (w / 32768) := chain w 12 3 4096 8 32768 (by decide) (by decide) (by decide)
  have p12 : 0 ≤ w / 4096 % 8 ∧ w / 4096 % 8 < 8 := by omega
  have d15 : w / 32768 = w / 32768 % 32 + 32 * (w / 1048576) := chain w 15 5 32768 32 1048576 (by decide) (by decide) (by decide)
  have p15 : 0 ≤ w / 32768 % 32 ∧ w / 32768 % 32 < 32 := by omega
  have d20 : w / 1048576 = w / 1048576 % 32 + 32 * (w / 33554432) := chain w 20 5 1048576 32 33554432 (by decide) (by decide) (by decide)
  have p20 : 0 ≤ w / 1048576 % 32 ∧ w / 1048576 % 32 < 32 := by omega
  have d25 : w / 33554432 = w / 33554432 % 128 := by omega
  have p25 : 0 ≤ w / 33554432 % 128 ∧ w / 33554432 % 128 < 128 := by omega
  generalize w % 128 = x0 at *
  generalize w / 128 % 32 = x7 at *
  generalize w / 4096 % 8 = x12 at *
  generalize w / 32768 % 32 = x15 at *
  generalize w / 1048576 % 32 = x20 at *
  generalize w / 33554432 % 128 = x25 at *
  generalize w / 128 = q7 at *
  generalize w / 4096 = q12 at *
  generalize w / 32768 = q15 at *
  generalize w / 1048576 = q20 at *
  generalize w / 33554432 = q25 at *
  omega
theorem hit6 (c g h w : Int) (w0 : 0 ≤ w) (w1 : w < 4294967296) (h0 : 0 ≤ h) (h1 : h < 64) : (w % 128 = c ∧ w / 4096 % 8 = g ∧ encW 6 c g h (w / 128 % 32) (w / 32768 % 32) (0) (takeF 6 w) = w) ↔ (w % 128 = c ∧ w / 4096 % 8 = g ∧ w / 67108864 = h / 2) := by
  have l : layF 6 (takeF 6 w) = w / 1048576 % 64 * 1048576 := by
    show w / 1048576 % 64 % 64 * 1048576 = _
    omega
  have e : encW 6 c g h (w / 128 % 32) (w / 32768 % 32) (0) (takeF 6 w) = c + g * 4096 + h / 2 * 67108864 + w / 128 % 32 * 128 + w / 32768 % 32 * 32768 + 0 * 1048576 + (w / 1048576 % 64 * 1048576) := by
    rw [← l]
    rfl
  rw [e]
  clear e l
  have ph : 0 ≤ h / 2 ∧ h / 2 < 32 := by omega
  generalize h / 2 = y at *
  have d0 : w = w % 128 + 128 * (w / 128) := by omega
  have p0 : 0 ≤ w % 128 ∧ w % 128 < 128 := by omega
  have d7 : w / 128 = w / 128 % 32 + 32 * (w / 4096) := chain w 7 5 128 32 4096 (by decide) (by decide) (by decide)
  have p7 : 0 ≤ w / 128 % 32 ∧ w / 128 % 32 < 32 := by omega
  have d12 : w / 4096 = w / 4096 % 8 + 8 * (w / 32768) := chain w 12 3 4096 8 32768 (by decide) (by decide) (by decide)
  have p12 : 0 ≤ w / 4096 % 8 ∧ w / 4096 % 8 < 8 := by omega
  have d15 : w / 32768 = w / 32768 % 32 + 32 * (w / 1048576) := chain w 15 5 32768 32 1048576 (by decide) (by decide) (by decide)
  have p15 : 0 ≤ w / 32768 % 32 ∧ w / 32768 % 32 < 32 := by omega
  have d20 : w / 1048576 = w / 1048576 % 64 + 64 * (w / 67108864) := chain w 20 6 1048576 64 67108864 (by decide) (by decide) (by decide)
  have p20 : 0 ≤ w / 1048576 % 64 ∧ w / 1048576 % 64 < 64 := by omega
  have d26 : w / 67108864 = w / 67108864 % 64 := by omega
  have p26 : 0 ≤ w / 67108864 % 64 ∧ w / 67108864 % 64 < 64 := by omega
  generalize w % 128 = x0 at *
  generalize w / 128 % 32 = x7 at *
  generalize w / 4096 % 8 = x12 at *
  generalize w / 32768 % 32 = x15 at *
  generalize w / 1048576 % 64 = x20 at *
  generalize w / 67108864 % 64 = x26 at *
  generalize w / 128 = q7 at *
  generalize w / 4096 = q12 at *
  generalize w / 32768 = q15 at *
  generalize w / 1048576 = q20 at *
  generalize w / 67108864 = q26 at *
  omega
theorem hit7 (c g h w : Int) (w0 : 0 ≤ w) (w1 : w < 4294967296) (h0 : 0 ≤ h) (h1 : h < 64) : (w % 128 = c ∧ w / 4096 % 8 = g ∧ encW 7 c g h (w / 128 % 32) (w / 32768 % 32) (0) (takeF 7 w) = w) ↔ (w % 128 = c ∧ w / 4096 % 8 = g ∧ w / 33554432 = h) := by
  have l : layF 7 (takeF 7 w) = w / 1048576 % 32 * 1048576 := by
    show w / 1048576 % 32 % 32 * 1048576 = _
    omega
  have e : encW 7 c g h (w / 128 % 32) (w / 32768 % 32) (0) (takeF 7 w) = c + g * 4096 + h * 33554432 + w / 128 % 32 * 128 + w / 32768 % 32 * 32768 + 0 * 1048576 + (w / 1048576 % 32 * 1048576) := by
    rw [← l]
    rfl
  rw [e]
  clear e l
  have d0 : w = w % 128 + 128 * (w / 128) := by omega
  have p0 : 0 ≤ w % 128 ∧ w % 128 < 128 := by omega
  have d7 : w / 128 = w / 128 % 32 + 32 * (w / 4096) := chain w 7 5 128 32 4096 (by decide) (by decide) (by decide)
  have p7 : 0 ≤ w / 128 % 32 ∧ w / 128 % 32 < 32 := by omega
  have d12 : w / 4096 = w / 4096 % 8 + 8 * (w / 32768) := chain w 12 3 4096 8 32768 (by decide) (by decide) (by decide)
  have p12 : 0 ≤ w / 4096 % 8 ∧ w / 4096 % 8 < 8 := by omega
  have d15 : w / 32768 = w / 32768 % 32 + 32 * (w / 1048576) := chain w 15 5 32768 32 1048576 (by decide) (by decide) (by decide)
  have p15 : 0 ≤ w / 32768 % 32 ∧ w / 32768 % 32 < 32 := by omega
  have d20 : w / 1048576 = w / 1048576 % 32 + 32 * (w / 33554432) := chain w 20 5 1048576 32 33554432 (by decide) (by decide) (by decide)
  have p20 : 0 ≤ w / 1048576 % 32 ∧ w / 1048576 % 32 < 32 := by omega
  have d25 : w / 33554432 = w / 33554432 % 128 := by omega
  have p25 : 0 ≤ w / 33554432 % 128 ∧ w / 33554432 % 128 < 128 := by omega
  generalize w % 128 = x0 at *
  generalize w / 128 % 32 = x7 at *
  generalize w / 4096 % 8 = x12 at *
  generalize w / 32768 % 32 = x15 at *
  generalize w / 1048576 % 32 = x20 at *
  generalize w / 33554432 % 128 = x25 at *
  generalize w / 128 = q7 at *
  generalize w / 4096 = q12 at *
  generalize w / 32768 = q15 at *
  generalize w / 1048576 = q20 at *
  generalize w / 33554432 = q25 at *
  omega
theorem hit8 (c g h w : Int) (w0 : 0 ≤ w) (w1 : w < 4294967296) (h0 : 0 ≤ h) (h1 : h < 64) : (w % 128 = c ∧ w / 4096 % 8 = g ∧ encW 8 c g h (w / 128 % 32) (w / 32768 % 32) (w / 1048576 % 32) (takeF 8 w) = w) ↔ (w % 128 = c ∧ w / 4096 % 8 = g ∧ w / 33554432 = h) := by
  have l : layF 8 (takeF 8 w) = 0 := rfl
  have e : encW 8 c g h (w / 128 % 32) (w / 32768 % 32) (w / 1048576 % 32) (takeF 8 w) = c + g * 4096 + h * 33554432 + w / 128 % 32 * 128 + w / 32768 % 32 * 32768 + w / 1048576 % 32 * 1048576 + (0) := by
    rw [← l]
    rfl
  rw [e]
  clear e l
  have d0 : w = w % 128 + 128 * (w / 128) := by omega
  have p0 : 0 ≤ w % 128 ∧ w % 128 < 128 := by omega
  have d7 : w / 128 = w / 128 % 32 + 32 * (w / 4096) := chain w 7 5 128 32 4096 (by decide) (by decide) (by decide)
  have p7 : 0 ≤ w / 128 % 32 ∧ w / 128 % 32 < 32 := by omega
  have d12 : w / 4096 = w / 4096 % 8 + 8 * (w / 32768) := chain w 12 3 4096 8 32768 (by decide) (by decide) (by decide)
  have p12 : 0 ≤ w / 4096 % 8 ∧ w / 4096 % 8 < 8 := by omega
  have d15 : w / 32768 = w / 32768 % 32 + 32 * (w / 1048576) := chain w 15 5 32768 32 1048576 (by decide) (by decide) (by decide)
  have p15 : 0 ≤ w / 32768 % 32 ∧ w / 32768 % 32 < 32 := by omega
  have d20 : w / 1048576 = w / 1048576 % 32 + 32 * (w / 33554432) := chain w 20 5 1048576 32 33554432 (by decide) (by decide) (by decide)
  have p20 : 0 ≤ w / 1048576 % 32 ∧ w / 1048576 % 32 < 32 := by omega
  have d25 : w / 33554432 = w / 33554432 % 128 := by omega
  have p25 : 0 ≤ w / 33554432 % 128 ∧ w / 33554432 % 128 < 128 := by omega
  generalize w % 128 = x0 at *
  generalize w / 128 % 32 = x7 at *
  generalize w / 4096 % 8 = x12 at *
  generalize w / 32768 % 32 = x15 at *
  generalize w / 1048576 % 32 = x20 at *
  generalize w / 33554432 % 128 = x25 at *
  generalize w / 128 = q7 at *
  generalize w / 4096 = q12 at *
  generalize w / 32768 = q15 at *
  generalize w / 1048576 = q20 at *
  generalize w / 33554432 = q25 at *
  omega
end Go.Proofs.YtdbngfeelfgbeaaGreatDoor

namespace Go.Proofs.YtdbngfeelfgbeaaGreatDoor
open Go.RowKit
set_option linter.unusedVariables false

def ToldIt (f : Int) (t : ByteArray) : Prop := ∀ w, Calls Tryz.prog 16 #[.int .i64 f] w fun e w' => e = .returned (.string t) ∧ w' = w
/-- What ruleOf and take answer of a form and a word. -/
def RuleIt (f : Int) (R : Value) : Prop := ∀ w, Calls Tryz.prog 30 #[.int .i64 f] w fun e w' => e = .returned R ∧ Below w.heap.size w w'
def TakeIt (R : Value) (v N : Int) : Prop := ∀ w, Calls Tryz.prog 66 #[R, .int .i64 v] w fun e w' => e = .returned (.int .i64 N) ∧ Below w.heap.size w w'
end Go.Proofs.YtdbngfeelfgbeaaGreatDoor

namespace Go.Proofs.YtdbngfeelfgbeaaGreatDoor
end Go.Proofs.YtdbngfeelfgbeaaGreatDoor

namespace Go.Proofs.YtdbngfeelfgbeaaGreatDoor
open Go.RowKit
set_option linter.unusedVariables false

theorem grownBy_below {w w1 w2 : World} {r : Option Nat} (h : w.grownBy w1 r) (hb : Below w1.heap.size w1 w2) : w.grownBy w2 r :=
  ⟨hb.os.trans h.os, hb.tape.trans h.tape, hb.output.trans h.output, Nat.le_trans h.size hb.size, fun i hi hne => (hb.block i (Nat.lt_of_lt_of_le hi h.size)).trans (h.block i hi hne)⟩
theorem grownBy_cell {w w1 : World} {r : Option Nat} (h : w.grownBy w1 r) (nb o : Nat) (u : Value) (hn : w.heap.size ≤ nb) : w.grownBy (w1.setCell ⟨nb, o, none⟩ u) r :=
  grownBy_own h grownBy_setCell (fun i e => by injection e with e; omega)
theorem grownBy_refl (w : World) (r : Option Nat) : w.grownBy w r := ⟨rfl, rfl, rfl, Nat.le_refl _, fun _ _ _ => rfl⟩
theorem Ctx.below {w w' : World} {B b len cap m : Nat} {a : Option Addr} (h : Ctx w B b a len cap m) (hb : Below w.heap.size w w') : Ctx w' B b a len cap m := by
  obtain ⟨⟨p, sd, hp, hs⟩, h1, h2, h3⟩ := h
  refine ⟨⟨p, sd, hp, ?_⟩, h1.below (hb.mono (by omega)), h2, Nat.lt_of_lt_of_le h3 hb.size⟩
  have hc : ∀ o, w'.cell? ⟨b, o, none⟩ = w.cell? ⟨b, o, none⟩ := fun o => hb.cell (p := ⟨b, o, none⟩) h3
  have hf : ∀ o, w'.frozen? ⟨b, o, none⟩ = w.frozen? ⟨b, o, none⟩ := fun o => hb.frozen (p := ⟨b, o, none⟩) h3
  exact ⟨(hc 0).trans hs.c0, (hc 1).trans hs.c1, (hc 2).trans hs.c2, (hf 1).trans hs.f1, (hf 2).trans hs.f2, hs.p0, hs.p1, hs.s0, hs.s1⟩
theorem Ctx.cell {w : World} {B b len cap m : Nat} {a : Option Addr} (h : Ctx w B b a len cap m) (nb o : Nat) (u : Value) (hn : b < nb) : Ctx (w.setCell ⟨nb, o, none⟩ u) B b a len cap m := by
  obtain ⟨⟨p, sd, hp, hs⟩, h1, h2, h3⟩ := h
  have hB : B ≤ nb := by omega
  refine ⟨⟨p, sd, hp, ?_⟩, h1.below ((Below.refl _ _).setCell (p := ⟨nb, o, none⟩) hB u), h2, by simpa using h3⟩
  exact ⟨(World.cell?_setCell_other _ _ _ _ (by simp <;> omega)).trans hs.c0, (World.cell?_setCell_other _ _ _ _ (by simp <;> omega)).trans hs.c1, (World.cell?_setCell_other _ _ _ _ (by simp <;> omega)).trans hs.c2,
    (World.frozen?_setCell _ _ _ _).trans hs.f1, (World.frozen?_setCell _ _ _ _).trans hs.f2, hs.p0, hs.p1, hs.s0, hs.s1⟩
theorem Five.grown {w w' : World} {d : Nat} {row : Option Nat} {v0 v1 v2 v3 v4 : Int} (h : Five w d v0 v1 v2 v3 v4) (hg : w.grownBy w' row) (hd : d < w.heap.size) (hne : some d ≠ row) : Five w' d v0 v1 v2 v3 v4 :=
  ⟨(World.cell?_of_block (hg.block d hd hne)).trans h.c0, (World.cell?_of_block (hg.block d hd hne)).trans h.c1, (World.cell?_of_block (hg.block d hd hne)).trans h.c2, (World.cell?_of_block (hg.block d hd hne)).trans h.c3, (World.cell?_of_block (hg.block d hd hne)).trans h.c4,
   (World.frozen?_of_block (hg.block d hd hne)).trans h.f0, (World.frozen?_of_block (hg.block d hd hne)).trans h.f1, (World.frozen?_of_block (hg.block d hd hne)).trans h.f2, (World.frozen?_of_block (hg.block d hd hne)).trans h.f3, (World.frozen?_of_block (hg.block d hd hne)).trans h.f4⟩

theorem next_4096 (B b len cap m : Nat) (a : Option Addr) (w : World) (h : Ctx w B b a len cap m) (hm : m ≤ 99000) :
    Calls Tryz.prog 33 #[.pointer (some ⟨b, 0, none⟩), .int .i64 4096] w fun e w' => ∃ v : Nat, v < 4096 ∧ e = .returned (.int .i64 v) ∧ Ctx w' B b a len cap (m + 3) ∧ w.grownBy w' (some b) := by
  go_enter Tryz.func33, Tryz.ntmps33
  go_wp2_with fail
  refine (byte_ctx B b len cap m a w h (by omega)).mono ?_
  rintro e w1 ⟨x, hx, rfl, hc1, hg1⟩
  go_wp2_with fail
  refine (byte_ctx B b len cap _ a _ hc1 (by omega)).mono ?_
  rintro e w2 ⟨y, hy, rfl, hc2, hg2⟩
  go_wp2_with fail
  refine (byte_ctx B b len cap _ a _ hc2 (by omega)).mono ?_
  rintro e w3 ⟨z, hz, rfl, hc3, hg3⟩
  have hg := grownBy_trans (grownBy_trans hg1 hg2) hg3
  clear hg1 hg2 hg3 hc1 hc2 h
  go_wp2
  go_ret
  refine ⟨(x * 65536 + y * 256 + z) % 4096, by omega, congrArg (fun x => Ending.returned (.int .i64 x)) ?_, hc3, hg⟩
  omega
theorem next_1048576 (B b len cap m : Nat) (a : Option Addr) (w : World) (h : Ctx w B b a len cap m) (hm : m ≤ 99000) :
    Calls Tryz.prog 33 #[.pointer (some ⟨b, 0, none⟩), .int .i64 1048576] w fun e w' => ∃ v : Nat, v < 1048576 ∧ e = .returned (.int .i64 v) ∧ Ctx w' B b a len cap (m + 3) ∧ w.grownBy w' (some b) := by
  go_enter Tryz.func33, Tryz.ntmps33
  go_wp2_with fail
  refine (byte_ctx B b len cap m a w h (by omega)).mono ?_
  rintro e w1 ⟨x, hx, rfl, hc1, hg1⟩
  go_wp2_with fail
  refine (byte_ctx B b len cap _ a _ hc1 (by omega)).mono ?_
  rintro e w2 ⟨y, hy, rfl, hc2, hg2⟩
  go_wp2_with fail
  refine (byte_ctx B b len cap _ a _ hc2 (by omega)).mono ?_
  rintro e w3 ⟨z, hz, rfl, hc3, hg3⟩
  have hg := grownBy_trans (grownBy_trans hg1 hg2) hg3
  clear hg1 hg2 hg3 hc1 hc2 h
  go_wp2
  go_ret
  refine ⟨(x * 65536 + y * 256 + z) % 1048576, by omega, congrArg (fun x => Ending.returned (.int .i64 x)) ?_, hc3, hg⟩
  omega
theorem imm_1 (B b len cap m : Nat) (a : Option Addr) (w : World) (h : Ctx w B b a len cap m) (hm : m ≤ 90000) :
    Calls Tryz.prog 34 #[.pointer (some ⟨b, 0, none⟩), .int .i64 1] w fun e w' => ∃ v : Int, okI 1 v ∧ e = .returned (.int .i64 v) ∧ Ctx w' B b a len cap (m + 10) ∧ w.grownBy w' (some b) := by
  go_enter Tryz.func34, Tryz.ntmps34
  go_wp2_with fail
  refine (next_1048576 B b len cap m a w h (by omega)).mono ?_
  rintro e w1 ⟨x, hx, rfl, hc1, hg1⟩
  have hx1 : (x : Int) < 1048576 := by omega
  go_wp2_with fail
  refine (next_small B b len cap _ 9 a _ hc1 (by omega) (by omega) (by omega)).mono ?_
  rintro e w2 ⟨y, hy, rfl, hc2, hg2⟩
  have hy1 : (y : Int) < 9 := by omega
  clear h hc1
  go_wp2_with fail
  refine (next_small B b len cap _ 4 a _ (hc2.alloc _) (by omega) (by omega) (by omega)).mono ?_
  rintro e w3 ⟨v, hv, rfl, hc, hg⟩
  have hbw := hc2.bw
  have hkeep := World.cell?_of_block (a := ⟨w2.heap.size, v, none⟩) (hg.block w2.heap.size (by simp) (by intro e; injection e; omega))
  obtain ⟨q, hin, hq⟩ : ∃ q : Int, okI 1 q ∧ w3.cell? ⟨w2.heap.size, v, none⟩ = some (.int .i64 q) := by
    rw [hkeep]
    rcases (show v = 0 ∨ v = 1 ∨ v = 2 ∨ v = 3 by omega) with rfl | rfl | rfl | rfl
    · exact ⟨4096 * ((x : Int) - 524288), by simp only [okI]; simp <;> omega, by simp⟩
    · exact ⟨4096 * (y : Int), by simp only [okI]; simp <;> omega, by simp⟩
    · exact ⟨-2147483648, by simp [okI], by simp⟩
    · exact ⟨2147479552, by simp [okI], by simp⟩
  have hq' : w3.cell? ⟨w2.heap.size, 0 + v, none⟩ = some (.int .i64 q) := by rw [Nat.zero_add]; exact hq
  have hg' : w.grownBy w3 (some b) := grownBy_trans (grownBy_trans (grownBy_trans hg1 hg2) (World.grownBy_alloc w2 _ _)) hg
  clear hkeep hg hg1 hg2 hc2 hx hx1 hy hy1
  go_wp2
  go_ret
  exact ⟨q, hin, rfl, hc.mono (by omega), hg'⟩
theorem imm_2 (B b len cap m : Nat) (a : Option Addr) (w : World) (h : Ctx w B b a len cap m) (hm : m ≤ 90000) :
    Calls Tryz.prog 34 #[.pointer (some ⟨b, 0, none⟩), .int .i64 2] w fun e w' => ∃ v : Int, okI 2 v ∧ e = .returned (.int .i64 v) ∧ Ctx w' B b a len cap (m + 10) ∧ w.grownBy w' (some b) := by
  go_enter Tryz.func34, Tryz.ntmps34
  go_wp2_with fail
  refine (next_1048576 B b len cap m a w h (by omega)).mono ?_
  rintro e w1 ⟨x, hx, rfl, hc1, hg1⟩
  have hx1 : (x : Int) < 1048576 := by omega
  go_wp2_with fail
  refine (next_small B b len cap _ 60 a _ hc1 (by omega) (by omega) (by omega)).mono ?_
  rintro e w2 ⟨y, hy, rfl, hc2, hg2⟩
  have hy1 : (y : Int) < 60 := by omega
  clear h hc1
  go_wp2_with fail
  refine (next_small B b len cap _ 4 a _ (hc2.alloc _) (by omega) (by omega) (by omega)).mono ?_
  rintro e w3 ⟨v, hv, rfl, hc, hg⟩
  have hbw := hc2.bw
  have hkeep := World.cell?_of_block (a := ⟨w2.heap.size, v, none⟩) (hg.block w2.heap.size (by simp) (by intro e; injection e; omega))
  obtain ⟨q, hin, hq⟩ : ∃ q : Int, okI 2 q ∧ w3.cell? ⟨w2.heap.size, v, none⟩ = some (.int .i64 q) := by
    rw [hkeep]
    rcases (show v = 0 ∨ v = 1 ∨ v = 2 ∨ v = 3 by omega) with rfl | rfl | rfl | rfl
    · exact ⟨2 * ((x : Int) - 524288), by simp only [okI]; simp <;> omega, by simp⟩
    · exact ⟨4 * (y : Int) - 100, by simp only [okI]; simp <;> omega, by simp⟩
    · exact ⟨-1048576, by simp [okI], by simp⟩
    · exact ⟨1048574, by simp [okI], by simp⟩
  have hq' : w3.cell? ⟨w2.heap.size, 0 + v, none⟩ = some (.int .i64 q) := by rw [Nat.zero_add]; exact hq
  have hg' : w.grownBy w3 (some b) := grownBy_trans (grownBy_trans (grownBy_trans hg1 hg2) (World.grownBy_alloc w2 _ _)) hg
  clear hkeep hg hg1 hg2 hc2 hx hx1 hy hy1
  go_wp2
  go_ret
  exact ⟨q, hin, rfl, hc.mono (by omega), hg'⟩
theorem imm_3 (B b len cap m : Nat) (a : Option Addr) (w : World) (h : Ctx w B b a len cap m) (hm : m ≤ 90000) :
    Calls Tryz.prog 34 #[.pointer (some ⟨b, 0, none⟩), .int .i64 3] w fun e w' => ∃ v : Int, okI 3 v ∧ e = .returned (.int .i64 v) ∧ Ctx w' B b a len cap (m + 10) ∧ w.grownBy w' (some b) := by
  go_enter Tryz.func34, Tryz.ntmps34
  go_wp2_with fail
  refine (next_4096 B b len cap m a w h (by omega)).mono ?_
  rintro e w1 ⟨x, hx, rfl, hc1, hg1⟩
  have hx1 : (x : Int) < 4096 := by omega
  go_wp2_with fail
  refine (next_small B b len cap _ 40 a _ hc1 (by omega) (by omega) (by omega)).mono ?_
  rintro e w2 ⟨y, hy, rfl, hc2, hg2⟩
  have hy1 : (y : Int) < 40 := by omega
  clear h hc1
  go_wp2_with fail
  refine (next_small B b len cap _ 4 a _ (hc2.alloc _) (by omega) (by omega) (by omega)).mono ?_
  rintro e w3 ⟨v, hv, rfl, hc, hg⟩
  have hbw := hc2.bw
  have hkeep := World.cell?_of_block (a := ⟨w2.heap.size, v, none⟩) (hg.block w2.heap.size (by simp) (by intro e; injection e; omega))
  obtain ⟨q, hin, hq⟩ : ∃ q : Int, okI 3 q ∧ w3.cell? ⟨w2.heap.size, v, none⟩ = some (.int .i64 q) := by
    rw [hkeep]
    rcases (show v = 0 ∨ v = 1 ∨ v = 2 ∨ v = 3 by omega) with rfl | rfl | rfl | rfl
    · exact ⟨(x : Int) - 2048, by simp only [okI]; simp <;> omega, by simp⟩
    · exact ⟨(y : Int) - 8, by simp only [okI]; simp <;> omega, by simp⟩
    · exact ⟨-2048, by simp [okI], by simp⟩
    · exact ⟨2047, by simp [okI], by simp⟩
  have hq' : w3.cell? ⟨w2.heap.size, 0 + v, none⟩ = some (.int .i64 q) := by rw [Nat.zero_add]; exact hq
  have hg' : w.grownBy w3 (some b) := grownBy_trans (grownBy_trans (grownBy_trans hg1 hg2) (World.grownBy_alloc w2 _ _)) hg
  clear hkeep hg hg1 hg2 hc2 hx hx1 hy hy1
  go_wp2
  go_ret
  exact ⟨q, hin, rfl, hc.mono (by omega), hg'⟩
theorem imm_4 (B b len cap m : Nat) (a : Option Addr) (w : World) (h : Ctx w B b a len cap m) (hm : m ≤ 90000) :
    Calls Tryz.prog 34 #[.pointer (some ⟨b, 0, none⟩), .int .i64 4] w fun e w' => ∃ v : Int, okI 4 v ∧ e = .returned (.int .i64 v) ∧ Ctx w' B b a len cap (m + 10) ∧ w.grownBy w' (some b) := by
  go_enter Tryz.func34, Tryz.ntmps34
  go_wp2_with fail
  refine (next_4096 B b len cap m a w h (by omega)).mono ?_
  rintro e w1 ⟨x, hx, rfl, hc1, hg1⟩
  have hx1 : (x : Int) < 4096 := by omega
  go_wp2_with fail
  refine (next_small B b len cap _ 40 a _ hc1 (by omega) (by omega) (by omega)).mono ?_
  rintro e w2 ⟨y, hy, rfl, hc2, hg2⟩
  have hy1 : (y : Int) < 40 := by omega
  clear h hc1
  go_wp2_with fail
  refine (next_small B b len cap _ 4 a _ (hc2.alloc _) (by omega) (by omega) (by omega)).mono ?_
  rintro e w3 ⟨v, hv, rfl, hc, hg⟩
  have hbw := hc2.bw
  have hkeep := World.cell?_of_block (a := ⟨w2.heap.size, v, none⟩) (hg.block w2.heap.size (by simp) (by intro e; injection e; omega))
  obtain ⟨q, hin, hq⟩ : ∃ q : Int, okI 4 q ∧ w3.cell? ⟨w2.heap.size, v, none⟩ = some (.int .i64 q) := by
    rw [hkeep]
    rcases (show v = 0 ∨ v = 1 ∨ v = 2 ∨ v = 3 by omega) with rfl | rfl | rfl | rfl
    · exact ⟨2 * ((x : Int) - 2048), by simp only [okI]; simp <;> omega, by simp⟩
    · exact ⟨4 * (y : Int) - 60, by simp only [okI]; simp <;> omega, by simp⟩
    · exact ⟨-4096, by simp [okI], by simp⟩
    · exact ⟨4094, by simp [okI], by simp⟩
  have hq' : w3.cell? ⟨w2.heap.size, 0 + v, none⟩ = some (.int .i64 q) := by rw [Nat.zero_add]; exact hq
  have hg' : w.grownBy w3 (some b) := grownBy_trans (grownBy_trans (grownBy_trans hg1 hg2) (World.grownBy_alloc w2 _ _)) hg
  clear hkeep hg hg1 hg2 hc2 hx hx1 hy hy1
  go_wp2
  go_ret
  exact ⟨q, hin, rfl, hc.mono (by omega), hg'⟩
theorem imm_5 (B b len cap m : Nat) (a : Option Addr) (w : World) (h : Ctx w B b a len cap m) (hm : m ≤ 90000) :
    Calls Tryz.prog 34 #[.pointer (some ⟨b, 0, none⟩), .int .i64 5] w fun e w' => ∃ v : Int, okI 5 v ∧ e = .returned (.int .i64 v) ∧ Ctx w' B b a len cap (m + 10) ∧ w.grownBy w' (some b) := by
  go_enter Tryz.func34, Tryz.ntmps34
  go_wp2_with fail
  refine (next_4096 B b len cap m a w h (by omega)).mono ?_
  rintro e w1 ⟨x, hx, rfl, hc1, hg1⟩
  have hx1 : (x : Int) < 4096 := by omega
  go_wp2_with fail
  refine (next_small B b len cap _ 40 a _ hc1 (by omega) (by omega) (by omega)).mono ?_
  rintro e w2 ⟨y, hy, rfl, hc2, hg2⟩
  have hy1 : (y : Int) < 40 := by omega
  clear h hc1
  go_wp2_with fail
  refine (next_small B b len cap _ 4 a _ (hc2.alloc _) (by omega) (by omega) (by omega)).mono ?_
  rintro e w3 ⟨v, hv, rfl, hc, hg⟩
  have hbw := hc2.bw
  have hkeep := World.cell?_of_block (a := ⟨w2.heap.size, v, none⟩) (hg.block w2.heap.size (by simp) (by intro e; injection e; omega))
  obtain ⟨q, hin, hq⟩ : ∃ q : Int, okI 5 q ∧ w3.cell? ⟨w2.heap.size, v, none⟩ = some (.int .i64 q) := by
    rw [hkeep]
    rcases (show v = 0 ∨ v = 1 ∨ v = 2 ∨ v = 3 by omega) with rfl | rfl | rfl | rfl
    · exact ⟨(x : Int) - 2048, by simp only [okI]; simp <;> omega, by simp⟩
    · exact ⟨(y : Int) - 8, by simp only [okI]; simp <;> omega, by simp⟩
    · exact ⟨-2048, by simp [okI], by simp⟩
    · exact ⟨2047, by simp [okI], by simp⟩
  have hq' : w3.cell? ⟨w2.heap.size, 0 + v, none⟩ = some (.int .i64 q) := by rw [Nat.zero_add]; exact hq
  have hg' : w.grownBy w3 (some b) := grownBy_trans (grownBy_trans (grownBy_trans hg1 hg2) (World.grownBy_alloc w2 _ _)) hg
  clear hkeep hg hg1 hg2 hc2 hx hx1 hy hy1
  go_wp2
  go_ret
  exact ⟨q, hin, rfl, hc.mono (by omega), hg'⟩
theorem imm_6 (B b len cap m : Nat) (a : Option Addr) (w : World) (h : Ctx w B b a len cap m) (hm : m ≤ 90000) :
    Calls Tryz.prog 34 #[.pointer (some ⟨b, 0, none⟩), .int .i64 6] w fun e w' => ∃ v : Int, okI 6 v ∧ e = .returned (.int .i64 v) ∧ Ctx w' B b a len cap (m + 10) ∧ w.grownBy w' (some b) := by
  go_enter Tryz.func34, Tryz.ntmps34
  go_wp2_with fail
  refine (next_small B b len cap m 64 a w h (by omega) (by omega) (by omega)).mono ?_
  rintro e w1 ⟨x, hx, rfl, hc1, hg1⟩
  clear h
  go_wp2
  go_ret
  exact ⟨x, by simp only [okI]; simp <;> omega, rfl, hc1.mono (by omega), hg1⟩
theorem imm_7 (B b len cap m : Nat) (a : Option Addr) (w : World) (h : Ctx w B b a len cap m) (hm : m ≤ 90000) :
    Calls Tryz.prog 34 #[.pointer (some ⟨b, 0, none⟩), .int .i64 7] w fun e w' => ∃ v : Int, okI 7 v ∧ e = .returned (.int .i64 v) ∧ Ctx w' B b a len cap (m + 10) ∧ w.grownBy w' (some b) := by
  go_enter Tryz.func34, Tryz.ntmps34
  go_wp2_with fail
  refine (next_small B b len cap m 32 a w h (by omega) (by omega) (by omega)).mono ?_
  rintro e w1 ⟨x, hx, rfl, hc1, hg1⟩
  clear h
  go_wp2
  go_ret
  exact ⟨x, by simp only [okI]; simp <;> omega, rfl, hc1.mono (by omega), hg1⟩
theorem imm_8 (B b len cap m : Nat) (a : Option Addr) (w : World) (h : Ctx w B b a len cap m) (hm : m ≤ 90000) :
    Calls Tryz.prog 34 #[.pointer (some ⟨b, 0, none⟩), .int .i64 8] w fun e w' => ∃ v : Int, okI 8 v ∧ e = .returned (.int .i64 v) ∧ Ctx w' B b a len cap (m + 10) ∧ w.grownBy w' (some b) := by
  go_enter Tryz.func34, Tryz.ntmps34
  go_wp2
  go_ret
  exact ⟨0, by simp [okI], rfl, h.mono (by omega), grownBy_refl _ _⟩
theorem imm_9 (B b len cap m : Nat) (a : Option Addr) (w : World) (h : Ctx w B b a len cap m) (hm : m ≤ 90000) :
    Calls Tryz.prog 34 #[.pointer (some ⟨b, 0, none⟩), .int .i64 9] w fun e w' => ∃ v : Int, okI 9 v ∧ e = .returned (.int .i64 v) ∧ Ctx w' B b a len cap (m + 10) ∧ w.grownBy w' (some b) := by
  go_enter Tryz.func34, Tryz.ntmps34
  go_wp2
  go_ret
  exact ⟨0, by simp [okI], rfl, h.mono (by omega), grownBy_refl _ _⟩
theorem imm_ctx (f : Int) (f0 : 1 ≤ f) (f1 : f ≤ 9) (B b len cap m : Nat) (a : Option Addr) (w : World) (h : Ctx w B b a len cap m) (hm : m ≤ 90000) :
    Calls Tryz.prog 34 #[.pointer (some ⟨b, 0, none⟩), .int .i64 f] w fun e w' => ∃ v : Int, okI f v ∧ e = .returned (.int .i64 v) ∧ Ctx w' B b a len cap (m + 10) ∧ w.grownBy w' (some b) := by
  rcases (show f = 1 ∨ f = 2 ∨ f = 3 ∨ f = 4 ∨ f = 5 ∨ f = 6 ∨ f = 7 ∨ f = 8 ∨ f = 9 by omega) with rfl | rfl | rfl | rfl | rfl | rfl | rfl | rfl | rfl
  · exact imm_1 B b len cap m a w h hm
  · exact imm_2 B b len cap m a w h hm
  · exact imm_3 B b len cap m a w h hm
  · exact imm_4 B b len cap m a w h hm
  · exact imm_5 B b len cap m a w h hm
  · exact imm_6 B b len cap m a w h hm
  · exact imm_7 B b len cap m a w h hm
  · exact imm_8 B b len cap m a w h hm
  · exact imm_9 B b len cap m a w h hm
end Go.Proofs.YtdbngfeelfgbeaaGreatDoor
