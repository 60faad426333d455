/- The words of a joined text; plain. Reading an instruction: both find the same; plain. Reading an instruction in the model: no words, no name. Reading an instruction in the model: no name. -/
import Derived.Test.YtdbngfeelfgbeaaDoorGXReadInstr31
import Derived.Test.YtdbngfeelfgbeaaDoorGXReadInstr32
namespace Go.Proofs.YtdbngfeelfgbeaaDoor.Tx
open Go.RowKit
set_option linter.unusedVariables false

theorem txt_list (l : List UInt8) : (txt l).data.toList = l := by simp [txt]
theorem bt_txt (l : List UInt8) (i : Nat) (x : UInt8) (h : l[i]? = some x) : bt (txt l) i = x.toNat := by
  have hi : i < (txt l).size := by rw [txt_size]; exact (List.getElem?_eq_some_iff.1 h).1
  have e := at_list (txt l) i hi
  rw [txt_list, h] at e
  injection e with e
  rw [bt_at _ _ hi, e]
theorem ext_txt (l : List UInt8) (a b : Nat) : (txt l).extract a b = txt ((l.drop a).take (b - a)) := by
  apply ByteArray.ext
  apply Array.toList_inj.1
  rw [txt_list, ← ByteArray.toList_eq, Lib.extract_toList, txt_list]
theorem u8_32 {x : UInt8} (h : x ≠ 32) : x.toNat ≠ 32 := fun e => h (UInt8.toNat_inj.1 e)

/-- One word more. -/
theorem word_step (l pre w post : List UInt8) (acc : List ByteArray) (hl : l = pre ++ w ++ post) (hw : w ≠ []) (hn : ∀ x ∈ w, x ≠ 32) (hp : post = [] ∨ post.head? = some 32)
    (h : wordsTo (txt l) pre.length = (acc, pre.length)) : wordsTo (txt l) (pre.length + w.length + 1) = (acc ++ [txt w], pre.length + w.length + 1) := by
  have hwl : 0 < w.length := List.length_pos_iff.2 hw
  have hsz : (txt l).size = pre.length + w.length + post.length := by rw [txt_size, hl]; simp; omega
  have skip := wordsTo_skip (txt l) pre.length w.length fun j h1 h2 => ⟨by omega, by
    have hjl : j - pre.length < w.length := by omega
    obtain ⟨x, hx, hxw⟩ : ∃ x, w[j - pre.length]? = some x ∧ x ∈ w := ⟨_, List.getElem?_eq_getElem hjl, List.getElem_mem _⟩
    have hj : l[j]? = some x := by
      rw [hl, List.append_assoc, List.getElem?_append_right h1, List.getElem?_append_left hjl, hx]
    rw [bt_txt l j _ hj]
    exact u8_32 (hn _ hxw)⟩
  show stepW (txt l) (wordsTo (txt l) (pre.length + w.length)) (pre.length + w.length) = _
  rw [skip, h]
  unfold stepW
  rw [if_pos, if_pos (by simp; omega), ext_txt]
  · have : (l.drop pre.length).take (pre.length + w.length - pre.length) = w := by
      rw [hl, List.append_assoc, List.drop_left', show pre.length + w.length - pre.length = w.length by omega, List.take_left']
      · rfl
      · rfl
    rw [this]
  · rcases hp with hp | hp
    · left
      rw [hsz, hp]
      simp
    · right
      have : l[pre.length + w.length]? = some 32 := by
        rw [hl, List.getElem?_append_right (by simp)]
        rw [List.head?_eq_getElem?] at hp
        simpa using hp
      rw [bt_txt l _ _ this]
      rfl

def Wd (w : List UInt8) : Prop := w ≠ [] ∧ ∀ x ∈ w, x ≠ 32
theorem tail_words : ∀ (ws : List (List UInt8)) (l pre post : List UInt8) (acc : List ByteArray), l = pre ++ Lib.joinTail [32] ws ++ post → (post = [] ∨ post = [32]) → (∀ w ∈ ws, Wd w) →
    wordsTo (txt l) (pre.length + 1) = (acc, pre.length + 1) → wordsB (txt l) = acc ++ ws.map txt
  | [], l, pre, post, acc, hl, hp, hw, h => by
    have hl : l = pre ++ post := by rw [hl]; simp [Lib.joinTail]
    have hsz : (txt l).size = pre.length + post.length := by rw [txt_size, hl]; simp
    unfold wordsB
    rcases hp with rfl | rfl
    · rw [hsz]
      simp only [List.length_nil, Nat.add_zero]
      rw [h]
      simp
    · rw [hsz]
      show (stepW (txt l) (wordsTo (txt l) (pre.length + 1)) (pre.length + 1)).1 = _
      rw [h]
      unfold stepW
      rw [if_pos (.inl (by rw [hsz]; rfl)), if_neg (by simp)]
      simp
  | b :: t, l, pre, post, acc, hl, hp, hw, h => by
    have hl2 : l = (pre ++ [32]) ++ b ++ (Lib.joinTail [32] t ++ post) := by rw [hl]; simp [Lib.joinTail]
    have hb := hw b (by simp)
    have hpost : (Lib.joinTail [32] t ++ post) = [] ∨ (Lib.joinTail [32] t ++ post).head? = some 32 := by
      cases t with
      | nil => rcases hp with rfl | rfl <;> simp [Lib.joinTail]
      | cons c r => right; simp [Lib.joinTail]
    have hs := word_step l (pre ++ [32]) b _ acc hl2 hb.1 hb.2 hpost (by simpa using h)
    have := tail_words t l (pre ++ [32] ++ b) post (acc ++ [txt b]) (by rw [hl2]; simp) hp (fun w hm => hw w (by simp [hm])) (by
      have e : (pre ++ [32] ++ b).length + 1 = (pre ++ [32]).length + b.length + 1 := by simp; omega
      rw [e]
      exact hs)
    rw [this]
    simp
/-- The words of words that are joined. -/
theorem join_words (n : List UInt8) (ws : List (List UInt8)) (l pre post : List UInt8) (hl : l = pre ++ Lib.join (n :: ws) [32] ++ post) (hp : post = [] ∨ post = [32]) (hn : Wd n) (hw : ∀ w ∈ ws, Wd w)
    (h : wordsTo (txt l) pre.length = ([], pre.length)) : wordsB (txt l) = (n :: ws).map txt := by
  rw [Lib.join_cons] at hl
  have hl2 : l = pre ++ n ++ (Lib.joinTail [32] ws ++ post) := by rw [hl]; simp
  have hpost : (Lib.joinTail [32] ws ++ post) = [] ∨ (Lib.joinTail [32] ws ++ post).head? = some 32 := by
    cases ws with
    | nil => rcases hp with rfl | rfl <;> simp [Lib.joinTail]
    | cons c r => right; simp [Lib.joinTail]
  have hs := word_step l pre n _ [] hl2 hn.1 hn.2 hpost h
  have := tail_words ws l (pre ++ n) post [txt n] (by rw [hl2]; simp) hp hw (by
    have e : (pre ++ n).length + 1 = pre.length + n.length + 1 := by simp
    rw [e]
    simpa using hs)
  rw [this]
  rfl
theorem lead0 (l : List UInt8) : wordsTo (txt l) ([] : List UInt8).length = ([], ([] : List UInt8).length) := rfl
theorem lead2 (l r : List UInt8) (h : l = [32, 32] ++ r) : wordsTo (txt l) ([32, 32] : List UInt8).length = ([], ([32, 32] : List UInt8).length) := by
  have h0 : bt (txt l) 0 = 32 := by rw [bt_txt l 0 32 (by rw [h]; rfl)]; rfl
  have h1 : bt (txt l) 1 = 32 := by rw [bt_txt l 1 32 (by rw [h]; rfl)]; rfl
  show stepW (txt l) (stepW (txt l) ([], 0) 0) 1 = ([], 2)
  have e1 : stepW (txt l) ([], 0) 0 = ([], 1) := by
    unfold stepW
    rw [if_pos (.inr h0), if_neg (by simp)]
  rw [e1]
  unfold stepW
  rw [if_pos (.inr h1)]
  simp

theorem digs_ok (m : Nat) : ∀ x ∈ Lib.decDigits m, x ≠ 32 := by
  intro x hx e
  subst e
  obtain ⟨k, hk⟩ := List.getElem?_of_mem hx
  obtain ⟨d, hd⟩ := Lib.digit_of_decFrom _ _ _ (dec_back m) k 32 hk
  have : Lib.digitVal 32 = none := by decide
  rw [this] at hd
  cases hd
theorem itoa_ok (v : Int) : Wd (Lib.itoa v) := by
  by_cases hv : v < 0
  · obtain ⟨m, rfl⟩ : ∃ m : Nat, v = -(m : Int) := ⟨v.natAbs, by omega⟩
    rw [Lib.itoa_neg m (by omega)]
    refine ⟨by simp, fun x hx => ?_⟩
    rcases List.mem_cons.1 hx with rfl | hx
    · decide
    · exact digs_ok m x hx
  · obtain ⟨m, rfl⟩ : ∃ m : Nat, v = (m : Int) := ⟨v.toNat, by omega⟩
    rw [Lib.itoa_nonneg]
    exact ⟨decDigits_ne m, digs_ok m⟩
theorem wordF_ok (l : UInt8) (v : Int) : Wd (wordF l v) := by
  unfold wordF
  split
  · exact itoa_ok v
  · refine ⟨by simp, fun x hx => ?_⟩
    rcases List.mem_append.1 hx with hx | hx
    · simp only [List.mem_singleton] at hx
      subst hx
      decide
    · exact (itoa_ok v).2 x hx
set_option maxRecDepth 100000 in
theorem name_ok (K : Nat) (h1 : 1 ≤ K) (h2 : K ≤ 64) : Wd (Op.words.getD K []) := by
  have key : ∀ j : Nat, j < 65 → 1 ≤ j → Op.words.getD j [] ≠ [] ∧ ∀ x ∈ Op.words.getD j [], x ≠ 32 := by decide +kernel
  exact key K (by omega) h1

/-- The letters of a form's fields, in the order of its text. -/
def letters (f : Int) : List UInt8 :=
  if f = 1 ∨ f = 2 then [100, 105] else if f = 3 ∨ f = 6 ∨ f = 7 then [100, 49, 105] else if f = 4 then [49, 50, 105] else if f = 5 then [50, 49, 105] else if f = 8 then [100, 49, 50] else []
theorem letters_told (f : Int) (h0 : 1 ≤ f) (h1 : f ≤ 9) : ToldBy f (txt (letters f)) := by
  rcases (show f = 1 ∨ f = 2 ∨ f = 3 ∨ f = 4 ∨ f = 5 ∨ f = 6 ∨ f = 7 ∨ f = 8 ∨ f = 9 by omega) with rfl | rfl | rfl | rfl | rfl | rfl | rfl | rfl | rfl
  · exact ⟨told1, by simp [letters, txt, letterOK], by decide⟩
  · exact ⟨told2, by simp [letters, txt, letterOK], by decide⟩
  · exact ⟨told3, by simp [letters, txt, letterOK], by decide⟩
  · exact ⟨told4, by simp [letters, txt, letterOK], by decide⟩
  · exact ⟨told5, by simp [letters, txt, letterOK], by decide⟩
  · exact ⟨told6, by simp [letters, txt, letterOK], by decide⟩
  · exact ⟨told7, by simp [letters, txt, letterOK], by decide⟩
  · exact ⟨told8, by simp [letters, txt, letterOK], by decide⟩
  · exact ⟨told9, by simp [letters, txt, letterOK], by decide⟩
theorem textL_join (f : Int) (h0 : 1 ≤ f) (h1 : f ≤ 9) (n : List UInt8) (rd r1 r2 im : Int) : textL f n rd r1 r2 im = Lib.join (n :: fieldsL (letters f) rd r1 r2 im) [32] := by
  rcases (show f = 1 ∨ f = 2 ∨ f = 3 ∨ f = 4 ∨ f = 5 ∨ f = 6 ∨ f = 7 ∨ f = 8 ∨ f = 9 by omega) with rfl | rfl | rfl | rfl | rfl | rfl | rfl | rfl | rfl <;>
    simp [letters, Lib.join_cons, Lib.joinTail, fieldsL, wordF, valL, textL, regT, immT]
theorem fieldsL_ok (told : List UInt8) (rd r1 r2 im : Int) : ∀ w ∈ fieldsL told rd r1 r2 im, Wd w := by
  intro w hw
  obtain ⟨l, _, rfl⟩ := List.mem_map.1 hw
  exact wordF_ok _ _
theorem text_words (K : Nat) (hK1 : 1 ≤ K) (hK64 : K ≤ 64) (rd r1 r2 im : Int) :
    wordsB (txt (textB K rd r1 r2 im)) = txt (Op.words.getD K []) :: (fieldsL (letters (shT (K : Int)).1) rd r1 r2 im).map txt := by
  have hf := shT_form (K : Int) (by omega) (by omega)
  unfold textB
  rw [textL_join _ hf.1 hf.2, Int.toNat_natCast]
  exact join_words _ _ _ [] [] (by simp) (.inl rfl) (name_ok K hK1 hK64) (fieldsL_ok _ _ _ _ _) (lead0 _)
end Go.Proofs.YtdbngfeelfgbeaaDoor.Tx

namespace Go.Proofs.YtdbngfeelfgbeaaDoor.Tx
open Go.RowKit
set_option linter.unusedVariables false

theorem numK_some {t : List UInt8} (h : numK t = true) : numB t = some (numV t) := by
  unfold numK at h
  unfold numV
  obtain ⟨v, hv⟩ := Option.isSome_iff_exists.1 h
  rw [hv]
  rfl
theorem numK_itoa {t : List UInt8} (h : numK t = true) : Lib.itoa (numV t) = t := (num_atoi (numK_some h)).2.1
theorem num_itoa {v : Int} (h0 : -1000000000000000000 < v) (h1 : v < 1000000000000000000) : numV (Lib.itoa v) = v ∧ numK (Lib.itoa v) = true := by
  have := num_small h0 h1
  unfold numV numK
  rw [this]
  exact ⟨rfl, rfl⟩
theorem head_cons {t : List UInt8} {x : UInt8} (h : t.head? = some x) : t = x :: t.tail := by
  cases t with
  | nil => cases h
  | cons a r =>
    simp only [List.head?_cons, Option.some.injEq] at h
    rw [h]
    rfl
/-- A field's word that is read is the word of what was read. -/
theorem fld_fwd {l : UInt8} {t : List UInt8} (h : fldK l t = true) : wordF l (fldV l t) = t := by
  unfold fldK at h
  unfold fldV wordF
  by_cases e : l = 105
  · rw [if_pos e] at h ⊢
    rw [if_pos e]
    exact numK_itoa h
  · rw [if_neg e] at h ⊢
    rw [if_neg e]
    by_cases e2 : t.head? = some 120
    · rw [if_pos e2] at h ⊢
      rw [numK_itoa h]
      exact (head_cons e2).symm
    · rw [if_neg e2] at h
      cases h
theorem fld_back (l : UInt8) {v : Int} (h0 : -1000000000000000000 < v) (h1 : v < 1000000000000000000) : fldK l (wordF l v) = true ∧ fldV l (wordF l v) = v := by
  obtain ⟨a, b⟩ := num_itoa h0 h1
  unfold fldK fldV wordF
  by_cases e : l = 105
  · rw [if_pos e, if_pos e, if_pos e]
    exact ⟨b, a⟩
  · rw [if_neg e, if_neg e, if_neg e]
    simp [a, b]
/-- A register's word. -/
theorem reg_fwd {l : UInt8} {t : List UInt8} (hl : l ≠ 105) (h : fldK l t = true) (hr : regB (fldV l t) = true) : regN t = fldV l t := by
  unfold fldK at h
  unfold fldV at hr ⊢
  rw [if_neg hl] at h hr ⊢
  by_cases e2 : t.head? = some 120
  · rw [if_pos e2] at h hr ⊢
    unfold regN
    rw [if_pos]
    refine ⟨?_, e2, h, hr⟩
    have ht := head_cons e2
    have hn : t.tail ≠ [] := fun e => by
      rw [e] at h
      revert h
      decide
    rw [ht]
    have := List.length_pos_iff.2 hn
    simp only [List.length_cons]
    omega
  · rw [if_neg e2] at h
    cases h
theorem readTo_some {told : List UInt8} {ws : List ByteArray} {k : Nat} {q : Q} (h : readTo told ws (k + 1) = some q) :
    ∃ p l x, readTo told ws k = some p ∧ told[k]? = some l ∧ ws[k]? = some x ∧ fldK l x.data.toList = true ∧ q = setL l (fldV l x.data.toList) p := by
  unfold readTo at h
  obtain ⟨p, hp, h⟩ := Option.bind_eq_some_iff.1 h
  cases hl : told[k]? with
  | none => simp [hl] at h
  | some l =>
    cases hx : ws[k]? with
    | none => simp [hl, hx] at h
    | some x =>
      simp only [hl, hx] at h
      split at h
      · rename_i hf
        injection h with h
        exact ⟨p, l, x, hp, rfl, rfl, hf, h.symm⟩
      · cases h
theorem readTo_step {told : List UInt8} {ws : List ByteArray} {k : Nat} {p : Q} {l : UInt8} {x : ByteArray} (h : readTo told ws k = some p) (hl : told[k]? = some l) (hx : ws[k]? = some x) (hf : fldK l x.data.toList = true) :
    readTo told ws (k + 1) = some (setL l (fldV l x.data.toList) p) := by
  unfold readTo
  rw [h]
  simp only [Option.bind_some, hl, hx, hf, if_true]

def lst (rest : List ByteArray) : List (List UInt8) := rest.map fun x => x.data.toList
theorem three {rest : List ByteArray} (h : rest.length = 3) : ∃ a b c, rest = [a, b, c] := by
  match rest, h with
  | [a, b, c], _ => exact ⟨a, b, c, rfl⟩
theorem two {rest : List ByteArray} (h : rest.length = 2) : ∃ a b, rest = [a, b] := by
  match rest, h with
  | [a, b], _ => exact ⟨a, b, rfl⟩

/-- Three fields that are read. -/
theorem read3 {l1 l2 l3 : UInt8} {a b c : ByteArray} {q : Q} (h : readTo [l1, l2, l3] [a, b, c] 3 = some q) :
    fldK l1 a.data.toList = true ∧ fldK l2 b.data.toList = true ∧ fldK l3 c.data.toList = true ∧ q = setL l3 (fldV l3 c.data.toList) (setL l2 (fldV l2 b.data.toList) (setL l1 (fldV l1 a.data.toList) ⟨0, 0, 0, 0⟩)) := by
  obtain ⟨p2, m3, x3, h2, e1, e2, k3, rfl⟩ := readTo_some h
  obtain ⟨p1, m2, x2, h1, f1, f2, k2, rfl⟩ := readTo_some h2
  obtain ⟨p0, m1, x1, h0, g1, g2, k1, rfl⟩ := readTo_some h1
  clear h h2 h1
  injection h0 with h0
  subst h0
  simp only [List.getElem?_cons_succ, List.getElem?_cons_zero, Option.some.injEq] at e1 e2 f1 f2 g1 g2
  subst e1; subst e2; subst f1; subst f2; subst g1; subst g2
  exact ⟨k1, k2, k3, rfl⟩
theorem read2 {l1 l2 : UInt8} {a b : ByteArray} {q : Q} (h : readTo [l1, l2] [a, b] 2 = some q) :
    fldK l1 a.data.toList = true ∧ fldK l2 b.data.toList = true ∧ q = setL l2 (fldV l2 b.data.toList) (setL l1 (fldV l1 a.data.toList) ⟨0, 0, 0, 0⟩) := by
  obtain ⟨p1, m2, x2, h1, f1, f2, k2, rfl⟩ := readTo_some h
  obtain ⟨p0, m1, x1, h0, g1, g2, k1, rfl⟩ := readTo_some h1
  clear h h1
  injection h0 with h0
  subst h0
  simp only [List.getElem?_cons_succ, List.getElem?_cons_zero, Option.some.injEq] at f1 f2 g1 g2
  subst f1; subst f2; subst g1; subst g2
  exact ⟨k1, k2, rfl⟩
theorem back3 {l1 l2 l3 : UInt8} {a b c : ByteArray} (h1 : fldK l1 a.data.toList = true) (h2 : fldK l2 b.data.toList = true) (h3 : fldK l3 c.data.toList = true) :
    readTo [l1, l2, l3] [a, b, c] 3 = some (setL l3 (fldV l3 c.data.toList) (setL l2 (fldV l2 b.data.toList) (setL l1 (fldV l1 a.data.toList) ⟨0, 0, 0, 0⟩))) :=
  readTo_step (readTo_step (readTo_step rfl rfl rfl h1) rfl rfl h2) rfl rfl h3
theorem back2 {l1 l2 : UInt8} {a b : ByteArray} (h1 : fldK l1 a.data.toList = true) (h2 : fldK l2 b.data.toList = true) :
    readTo [l1, l2] [a, b] 2 = some (setL l2 (fldV l2 b.data.toList) (setL l1 (fldV l1 a.data.toList) ⟨0, 0, 0, 0⟩)) :=
  readTo_step (readTo_step rfl rfl rfl h1) rfl rfl h2

theorem fld_imm (t : List UInt8) : fldK 105 t = numK t ∧ fldV 105 t = numV t := ⟨rfl, rfl⟩
theorem and4 {a b c d : Bool} (h : (a && b && c && d) = true) : a = true ∧ b = true ∧ c = true ∧ d = true := by
  revert h
  cases a <;> cases b <;> cases c <;> cases d <;> simp
/-- What the program finds is what the model finds. -/
theorem agree_fwd (f : Int) (h0 : 1 ≤ f) (h9 : f ≤ 9) (w0 : ByteArray) (rest : List ByteArray) (hlen : rest.length = (letters f).length) (q : Q) (hq : readTo (letters f) rest (letters f).length = some q) (hr : rightF f q.rd q.r1 q.r2 q.im = true) :
    q = modQ f rest (numV (lastW w0 rest).data.toList) ∧ modK f (numK (lastW w0 rest).data.toList) = true ∧ fieldsL (letters f) q.rd q.r1 q.r2 q.im = lst rest := by
  rcases (show f = 1 ∨ f = 2 ∨ f = 3 ∨ f = 4 ∨ f = 5 ∨ f = 6 ∨ f = 7 ∨ f = 8 ∨ f = 9 by omega) with rfl | rfl | rfl | rfl | rfl | rfl | rfl | rfl | rfl
  all_goals simp only [letters] at hlen hq ⊢
  all_goals simp only [rightF] at hr
  case inl | inr.inl =>
    obtain ⟨a, b, rfl⟩ := two hlen
    obtain ⟨k1, k2, rfl⟩ := read2 hq
    obtain ⟨r1, r2, r3, r4⟩ := and4 hr
    have e1 := reg_fwd (by decide) k1 r1
    refine ⟨?_, k2, ?_⟩
    · simp only [modQ, rg, lastW, setL]
      simp [e1, fld_imm]
    · have f1 := fld_fwd k1
      have f2 := fld_fwd k2
      simpa [fieldsL, valL, setL, lst] using And.intro f1 f2
  case inr.inr.inl | inr.inr.inr.inr.inr.inl | inr.inr.inr.inr.inr.inr.inl =>
    obtain ⟨a, b, c, rfl⟩ := three hlen
    obtain ⟨k1, k2, k3, rfl⟩ := read3 hq
    obtain ⟨r1, r2, r3, r4⟩ := and4 hr
    have e1 := reg_fwd (by decide) k1 r1
    have e2 := reg_fwd (by decide) k2 r2
    refine ⟨?_, k3, ?_⟩
    · simp only [modQ, rg, lastW, setL]
      simp [e1, e2, fld_imm]
    · have f1 := fld_fwd k1
      have f2 := fld_fwd k2
      have f3 := fld_fwd k3
      simpa [fieldsL, valL, setL, lst] using And.intro f1 (And.intro f2 f3)
  case inr.inr.inr.inl =>
    obtain ⟨a, b, c, rfl⟩ := three hlen
    obtain ⟨k1, k2, k3, rfl⟩ := read3 hq
    obtain ⟨r1, r2, r3, r4⟩ := and4 hr
    have e1 := reg_fwd (by decide) k1 r2
    have e2 := reg_fwd (by decide) k2 r3
    refine ⟨?_, k3, ?_⟩
    · simp only [modQ, rg, lastW, setL]
      simp [e1, e2, fld_imm]
    · have f1 := fld_fwd k1
      have f2 := fld_fwd k2
      have f3 := fld_fwd k3
      simpa [fieldsL, valL, setL, lst] using And.intro f1 (And.intro f2 f3)
  case inr.inr.inr.inr.inl =>
    obtain ⟨a, b, c, rfl⟩ := three hlen
    obtain ⟨k1, k2, k3, rfl⟩ := read3 hq
    obtain ⟨r1, r2, r3, r4⟩ := and4 hr
    have e1 := reg_fwd (by decide) k1 r3
    have e2 := reg_fwd (by decide) k2 r2
    refine ⟨?_, k3, ?_⟩
    · simp only [modQ, rg, lastW, setL]
      simp [e1, e2, fld_imm]
    · have f1 := fld_fwd k1
      have f2 := fld_fwd k2
      have f3 := fld_fwd k3
      simpa [fieldsL, valL, setL, lst] using And.intro f1 (And.intro f2 f3)
  case inr.inr.inr.inr.inr.inr.inr.inl =>
    obtain ⟨a, b, c, rfl⟩ := three hlen
    obtain ⟨k1, k2, k3, rfl⟩ := read3 hq
    obtain ⟨r1, r2, r3, r4⟩ := and4 hr
    have e1 := reg_fwd (by decide) k1 r1
    have e2 := reg_fwd (by decide) k2 r2
    have e3 := reg_fwd (by decide) k3 r3
    refine ⟨?_, rfl, ?_⟩
    · simp only [modQ, rg, lastW, setL]
      simp [e1, e2, e3]
    · have f1 := fld_fwd k1
      have f2 := fld_fwd k2
      have f3 := fld_fwd k3
      simpa [fieldsL, valL, setL, lst] using And.intro f1 (And.intro f2 f3)
  case inr.inr.inr.inr.inr.inr.inr.inr =>
    have hlen : rest = [] := List.length_eq_zero_iff.1 hlen
    subst hlen
    injection hq with hq
    subst hq
    exact ⟨rfl, rfl, rfl⟩

theorem reg_bound {r : Int} (h : regB r = true) : -1000000000000000000 < r ∧ r < 1000000000000000000 := by
  have := regB_bd h
  omega
theorem lst3 {rest : List ByteArray} {x y z : List UInt8} (h : lst rest = [x, y, z]) : ∃ a b c, rest = [a, b, c] ∧ a.data.toList = x ∧ b.data.toList = y ∧ c.data.toList = z := by
  match rest, h with
  | [a, b, c], h => simp [lst] at h; exact ⟨a, b, c, rfl, h.1, h.2.1, h.2.2⟩
theorem lst2 {rest : List ByteArray} {x y : List UInt8} (h : lst rest = [x, y]) : ∃ a b, rest = [a, b] ∧ a.data.toList = x ∧ b.data.toList = y := by
  match rest, h with
  | [a, b], h => simp [lst] at h; exact ⟨a, b, rfl, h.1, h.2⟩
theorem back_at {l : UInt8} {t : List UInt8} {v : Int} (e : t = wordF l v) (h : -1000000000000000000 < v ∧ v < 1000000000000000000) : fldK l t = true ∧ fldV l t = v := by
  rw [e]
  exact fld_back l h.1 h.2
/-- The words that tell an instruction are read so. -/
theorem agree_words (f : Int) (h0 : 1 ≤ f) (h9 : f ≤ 9) (rest : List ByteArray) (rd r1 r2 im : Int) (hr : rightF f rd r1 r2 im = true) (him : -1000000000000000000 < im ∧ im < 1000000000000000000) (h : lst rest = fieldsL (letters f) rd r1 r2 im) :
    rest.length = (letters f).length ∧ readTo (letters f) rest (letters f).length = some ⟨rd, r1, r2, im⟩ := by
  refine ⟨by have := congrArg List.length h; simpa [lst, fieldsL] using this, ?_⟩
  rcases (show f = 1 ∨ f = 2 ∨ f = 3 ∨ f = 4 ∨ f = 5 ∨ f = 6 ∨ f = 7 ∨ f = 8 ∨ f = 9 by omega) with rfl | rfl | rfl | rfl | rfl | rfl | rfl | rfl | rfl
  all_goals simp only [letters] at h ⊢
  all_goals simp only [rightF] at hr
  all_goals simp [fieldsL, valL] at h
  case inl | inr.inl =>
    obtain ⟨a, b, rfl, e1, e2⟩ := lst2 h
    obtain ⟨g1, g2, g3, g4⟩ := and4 hr
    obtain ⟨k1, v1⟩ := back_at e1 (reg_bound g1)
    obtain ⟨k2, v2⟩ := back_at e2 him
    refine (back2 k1 k2).trans ?_
    rw [v1, v2]
    simp at g2 g3
    subst g2; subst g3
    rfl
  case inr.inr.inl | inr.inr.inr.inr.inr.inl | inr.inr.inr.inr.inr.inr.inl =>
    obtain ⟨a, b, c, rfl, e1, e2, e3⟩ := lst3 h
    obtain ⟨g1, g2, g3, g4⟩ := and4 hr
    obtain ⟨k1, v1⟩ := back_at e1 (reg_bound g1)
    obtain ⟨k2, v2⟩ := back_at e2 (reg_bound g2)
    obtain ⟨k3, v3⟩ := back_at e3 him
    refine (back3 k1 k2 k3).trans ?_
    rw [v1, v2, v3]
    simp at g3
    subst g3
    rfl
  case inr.inr.inr.inl =>
    obtain ⟨a, b, c, rfl, e1, e2, e3⟩ := lst3 h
    obtain ⟨g1, g2, g3, g4⟩ := and4 hr
    obtain ⟨k1, v1⟩ := back_at e1 (reg_bound g2)
    obtain ⟨k2, v2⟩ := back_at e2 (reg_bound g3)
    obtain ⟨k3, v3⟩ := back_at e3 him
    refine (back3 k1 k2 k3).trans ?_
    rw [v1, v2, v3]
    simp at g1
    subst g1
    rfl
  case inr.inr.inr.inr.inl =>
    obtain ⟨a, b, c, rfl, e1, e2, e3⟩ := lst3 h
    obtain ⟨g1, g2, g3, g4⟩ := and4 hr
    obtain ⟨k1, v1⟩ := back_at e1 (reg_bound g3)
    obtain ⟨k2, v2⟩ := back_at e2 (reg_bound g2)
    obtain ⟨k3, v3⟩ := back_at e3 him
    refine (back3 k1 k2 k3).trans ?_
    rw [v1, v2, v3]
    simp at g1
    subst g1
    rfl
  case inr.inr.inr.inr.inr.inr.inr.inl =>
    obtain ⟨a, b, c, rfl, e1, e2, e3⟩ := lst3 h
    obtain ⟨g1, g2, g3, g4⟩ := and4 hr
    obtain ⟨k1, v1⟩ := back_at e1 (reg_bound g1)
    obtain ⟨k2, v2⟩ := back_at e2 (reg_bound g2)
    obtain ⟨k3, v3⟩ := back_at e3 (reg_bound g3)
    refine (back3 k1 k2 k3).trans ?_
    rw [v1, v2, v3]
    simp at g4
    subst g4
    rfl
  case inr.inr.inr.inr.inr.inr.inr.inr =>
    obtain ⟨g1, g2, g3, g4⟩ := and4 hr
    simp at g1 g2 g3 g4
    subst g1; subst g2; subst g3; subst g4
    rfl

theorem lastT_is (s : ByteArray) (k : Nat) (hk : 1 ≤ k) : ∀ n, Op.lastT s n = k → (Op.wordAt k).data.toList = s.data.toList
  | 0, h => by
    have : Op.lastT s 0 = 0 := rfl
    omega
  | n + 1, h => by
    rw [Op.lastT] at h
    split at h
    · rename_i e
      rw [← h]
      exact e
    · exact lastT_is s k hk n h
theorem ba_ext {s t : ByteArray} (h : s.data.toList = t.data.toList) : s = t := ByteArray.ext (Array.toList_inj.1 h)
theorem lst_txt (ls : List (List UInt8)) (rest : List ByteArray) : ls.map txt = rest ↔ ls = lst rest := by
  constructor
  · rintro rfl
    simp [lst, txt_list, Function.comp_def]
  · rintro rfl
    unfold lst
    rw [List.map_map]
    conv => rhs; rw [← List.map_id rest]
    apply List.map_congr_left
    intro x _
    exact txt_self x
theorem modV_bd (f : Int) (rest : List ByteArray) (N : List UInt8) (hk : modK f (numK N) = true) : -1000000000000000000 < (modQ f rest (numV N)).im ∧ (modQ f rest (numV N)).im < 1000000000000000000 := by
  unfold modK at hk
  unfold modQ
  by_cases h : f = 8 ∨ f = 9
  · rcases h with rfl | rfl <;> simp
  · rw [if_neg h] at hk
    have := num_atoi (numK_some hk)
    repeat' split
    all_goals exact ⟨by first | exact this.2.2.1 | exact (by decide : (-1000000000000000000 : Int) < 0), by first | exact this.2.2.2 | exact (by decide : (0 : Int) < 1000000000000000000)⟩
/-- What the model holds for right. -/
def okM (K : Nat) (w0 : ByteArray) (rest : List ByteArray) : Bool :=
  modK (shT (K : Int)).1 (numK (lastW w0 rest).data.toList) && rightB K (modQ (shT (K : Int)).1 rest (numV (lastW w0 rest).data.toList)).rd (modQ (shT (K : Int)).1 rest (numV (lastW w0 rest).data.toList)).r1 (modQ (shT (K : Int)).1 rest (numV (lastW w0 rest).data.toList)).r2 (modQ (shT (K : Int)).1 rest (numV (lastW w0 rest).data.toList)).im
    && decide (wordsB (txt (textB K (modQ (shT (K : Int)).1 rest (numV (lastW w0 rest).data.toList)).rd (modQ (shT (K : Int)).1 rest (numV (lastW w0 rest).data.toList)).r1 (modQ (shT (K : Int)).1 rest (numV (lastW w0 rest).data.toList)).r2 (modQ (shT (K : Int)).1 rest (numV (lastW w0 rest).data.toList)).im)) = w0 :: rest)
theorem rightB_F {K : Nat} {rd r1 r2 im : Int} (h : rightB K rd r1 r2 im = true) : rightF (shT (K : Int)).1 rd r1 r2 im = true := by
  unfold rightB at h
  exact (Bool.and_eq_true_iff.1 h).2
/-- Both agree. -/
theorem agree (K : Nat) (hK1 : 1 ≤ K) (hK64 : K ≤ 64) (w0 : ByteArray) (rest : List ByteArray) (hK : Op.lastT w0 64 = K) :
    (∀ q, rest.length = (letters (shT (K : Int)).1).length → readTo (letters (shT (K : Int)).1) rest (letters (shT (K : Int)).1).length = some q → rightB K q.rd q.r1 q.r2 q.im = true → okM K w0 rest = true ∧ q = modQ (shT (K : Int)).1 rest (numV (lastW w0 rest).data.toList)) ∧
    (okM K w0 rest = true → rest.length = (letters (shT (K : Int)).1).length ∧ readTo (letters (shT (K : Int)).1) rest (letters (shT (K : Int)).1).length = some (modQ (shT (K : Int)).1 rest (numV (lastW w0 rest).data.toList)) ∧
      rightB K (modQ (shT (K : Int)).1 rest (numV (lastW w0 rest).data.toList)).rd (modQ (shT (K : Int)).1 rest (numV (lastW w0 rest).data.toList)).r1 (modQ (shT (K : Int)).1 rest (numV (lastW w0 rest).data.toList)).r2 (modQ (shT (K : Int)).1 rest (numV (lastW w0 rest).data.toList)).im = true) := by
  have hf := shT_form (K : Int) (by omega) (by omega)
  have hname : txt (Op.words.getD K []) = w0 := by
    have := lastT_is w0 K hK1 64 hK
    exact ba_ext this
  constructor
  · intro q hlen hq hr
    obtain ⟨rfl, e2, e3⟩ := agree_fwd _ hf.1 hf.2 w0 rest hlen q hq (rightB_F hr)
    refine ⟨?_, rfl⟩
    unfold okM
    rw [e2, hr, text_words K hK1 hK64, hname]
    simp only [Bool.and_self, Bool.true_and, decide_eq_true_eq]
    rw [(lst_txt _ _).2 e3]
  · intro h
    unfold okM at h
    obtain ⟨h1, h2⟩ := Bool.and_eq_true_iff.1 h
    obtain ⟨h3, h4⟩ := Bool.and_eq_true_iff.1 h1
    have h2 := of_decide_eq_true h2
    rw [text_words K hK1 hK64] at h2
    injection h2 with _ h2
    have h5 := (lst_txt _ _).1 h2
    have := agree_words _ hf.1 hf.2 rest _ _ _ _ (rightB_F h4) (modV_bd _ rest _ h3) h5.symm
    exact ⟨this.1, this.2, h4⟩
end Go.Proofs.YtdbngfeelfgbeaaDoor.Tx

namespace Go.Proofs.YtdbngfeelfgbeaaDoor.Tx
open Go.RowKit
set_option linter.unusedVariables false

set_option maxRecDepth 100000 in
set_option maxHeartbeats 4000000 in
theorem modEmpty (t : ByteArray) (ht : t.size ≤ 65536) (h0 : wordsB t = []) (w : World) :
    Calls Tryd.prog 19 #[.string t] w fun e w' => e = .returned (.tuple #[zero5, .bool false]) ∧ Below w.heap.size w w' := by
  go_enter Tryd.func19, Tryd.ntmps19
  go_wp2_with fail
  refine (wordsC t (by omega) _).mono ?_
  rintro e w1 ⟨v, rfl, hown, hb⟩
  have T1 := texts_of hown
  rw [h0] at T1
  obtain ⟨⟨p, c, rfl⟩, _⟩ := T1
  have F1 : Five w1 w.heap.size 0 0 0 0 0 := Five.below (by constructor <;> simp) hb (by simp <;> omega)
  have B1 : Below w.heap.size w w1 := ((Below.refl _ _).alloc (Nat.le_refl _) _).trans (hb.mono (by simp))
  have hz1 : w.heap.size < w1.heap.size := by have := hb.size; simp at this; omega
  clear hb hown
  rw [show ([] : List ByteArray).length = 0 from rfl]
  obtain ⟨c0, c1, c2, c3, c4, f0, f1, f2, f3, f4⟩ := F1
  go_wp2
  refine bodyPost_ret (v := .tuple #[zero5, .bool false]) (by simp [results, Tryd.results19, go_sem, c0, c1, c2, c3, c4]; rfl) rfl ⟨rfl, ?_⟩
  repeat (first | with_reducible exact B1 | refine Below.setCell ?_ (by first | omega | (simp; done) | (simp; omega)) _ | refine bdN ?_ _ | refine Below.drew ?_ | refine Below.alloc ?_ (by first | omega | (simp; done) | (simp; omega)) _)

end Go.Proofs.YtdbngfeelfgbeaaDoor.Tx

namespace Go.Proofs.YtdbngfeelfgbeaaDoor.Tx
open Go.RowKit
set_option linter.unusedVariables false

set_option maxRecDepth 100000 in
set_option maxHeartbeats 4000000 in
theorem modNone (t : ByteArray) (ht : t.size ≤ 65536) (w0 : ByteArray) (rest : List ByteArray) (hws : wordsB t = w0 :: rest) (hK : Op.lastT w0 64 = 0) (w : World) :
    Calls Tryd.prog 19 #[.string t] w fun e w' => e = .returned (.tuple #[zero5, .bool false]) ∧ Below w.heap.size w w' := by
  have hwl : (w0 :: rest).length ≤ 65537 := by
    rw [← hws]
    exact Nat.le_trans (wordsTo_len t _) (by omega)
  have hrl : (rest.length : Int) ≤ 65536 := by simp at hwl; omega
  have hOf : Hid (∀ w, Calls Tryd.prog 42 #[.string w0] w fun e w' => e = .returned (.int .i64 0) ∧ Below w.heap.size w w') := fun w => by
    have := Op.specOf0 w0 w
    rw [hK] at this
    exact this
  clear hK
  go_enter Tryd.func19, Tryd.ntmps19
  go_wp2_with fail
  refine (wordsC t (by omega) _).mono ?_
  rintro e w1 ⟨v, rfl, hown, hb⟩
  have T1 := texts_of hown
  rw [hws] at T1
  obtain ⟨g0, c0, rfl, hg0, hcells⟩ := T1.at' (by simp)
  have F1 : Five w1 w.heap.size 0 0 0 0 0 := Five.below (by constructor <;> simp) hb (by simp <;> omega)
  have B1 : Below w.heap.size w w1 := ((Below.refl _ _).alloc (Nat.le_refl _) _).trans (hb.mono (by simp))
  have hz1 : w.heap.size < w1.heap.size := by have := hb.size; simp at this; omega
  have hC0 := hcells 0 w0 rfl
  clear hb hown T1 hwl
  rw [List.length_cons]
  have hne : ((rest.length : Int) + 1 == 0) = false := by rw [beq_eq_false_iff_ne]; omega
  have hnp : (0 : Int) < (rest.length : Int) + 1 := by omega
  go_wp2_with fail
  refine (hOf.out _).mono ?_
  rintro e w2 ⟨rfl, hb2⟩
  have F2 : Five w2 w.heap.size 0 0 0 0 0 := F1.below hb2 hz1
  have B2 : Below w.heap.size w w2 := B1.trans (hb2.mono B1.size)
  have hz2 : w.heap.size < w2.heap.size := Nat.lt_of_lt_of_le hz1 hb2.size
  clear hb2 F1 B1 hg0 hcells hC0 hOf
  obtain ⟨d0, d1, d2, d3, d4, f0, f1, f2, f3, f4⟩ := F2
  go_wp2
  refine bodyPost_ret (v := .tuple #[zero5, .bool false]) (by simp [results, Tryd.results19, go_sem, d0, d1, d2, d3, d4, hz2, zero5]) rfl ⟨rfl, ?_⟩
  repeat (first | with_reducible exact B2 | refine Below.setCell ?_ (by first | omega | (simp; done) | (simp; omega)) _ | refine bdN ?_ _ | refine Below.drew ?_ | refine Below.alloc ?_ (by first | omega | (simp; done) | (simp; omega)) _)
end Go.Proofs.YtdbngfeelfgbeaaDoor.Tx
