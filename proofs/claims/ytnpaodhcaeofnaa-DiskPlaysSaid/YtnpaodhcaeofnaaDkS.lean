/-
  A disk's files as lists: what is written, what stays behind a crash. No statement is proved here. Conditions: none.
-/
import Derived.Test.YtnpaodhcaeofnaaFoot
namespace Go.Proofs.Ytnpaodhcaeofnaa

/-- A file: its safe bytes, the writes behind them (those from number 63 on may be joined, but for the last: wr). -/
structure Fl where
  safe : List UInt8
  gs : List (List UInt8)
def Fl.all (f : Fl) : List UInt8 := f.safe ++ f.gs.flatten
/-- Where each piece begins, the first at a. -/
def offs : Nat → List (List UInt8) → List Nat
  | _, [] => []
  | a, g :: r => a :: offs (a + g.length) r
def Fl.st (f : Fl) : List Nat := offs f.safe.length f.gs
def wr (gs : List (List UInt8)) (b : List UInt8) : List (List UInt8) := if 64 < gs.length then gs.take 63 ++ [(gs.drop 63).flatten, b] else gs ++ [b]
def stays (keep k : Nat) : Bool := keep / 2 ^ min k 63 % 2 == 1
/-- What is lost turns into noughts. -/
def zs (keep : Nat) : Nat → List (List UInt8) → List (List UInt8)
  | _, [] => []
  | k, g :: r => (if stays keep k then g else List.replicate g.length 0) :: zs keep (k + 1) r
/-- How much is left of the bytes. -/
def lefts (keep torn : Nat) : Nat → Nat → Nat → List (List UInt8) → Nat
  | _, _, c, [] => c
  | k, a, c, g :: r => lefts keep torn (k + 1) (a + g.length) (if stays keep k then a + g.length - min torn g.length else c) r
def fallen (keep torn : Nat) (f : Fl) : List UInt8 := (f.safe ++ (zs keep 0 f.gs).flatten).take (lefts keep torn 0 f.safe.length f.safe.length f.gs)
def Fl.fall (keep torn : Nat) (f : Fl) : Fl := ⟨fallen keep torn f, []⟩
def Fl.sync (f : Fl) : Fl := ⟨f.all, []⟩
def Fl.write (f : Fl) (b : List UInt8) : Fl := ⟨f.safe, wr f.gs b⟩

theorem offs_len : ∀ (a : Nat) (l : List (List UInt8)), (offs a l).length = l.length
  | _, [] => rfl
  | a, g :: r => by simp [offs, offs_len (a + g.length) r]
theorem offs_app : ∀ (a : Nat) (l m : List (List UInt8)), offs a (l ++ m) = offs a l ++ offs (a + l.flatten.length) m
  | _, [], _ => by simp [offs]
  | a, g :: r, m => by simp [offs, offs_app (a + g.length) r m, Nat.add_assoc]
theorem offs_at (a : Nat) (l : List (List UInt8)) (i : Nat) (h : i < l.length) : (offs a l)[i]? = some (a + (l.take i).flatten.length) := by
  have e : l = l.take i ++ l.drop i := (List.take_append_drop i l).symm
  have h2 : (offs a (l.take i ++ l.drop i))[i]? = some (a + (l.take i).flatten.length) := by
    rw [offs_app, List.getElem?_append_right (by rw [offs_len, List.length_take]; omega), offs_len, List.length_take, Nat.min_eq_left (by omega), Nat.sub_self]
    cases hd : l.drop i with
    | nil => have := congrArg List.length hd; simp at this; omega
    | cons x r => simp [offs]
  rw [← e] at h2; exact h2
theorem zs_len : ∀ (keep k : Nat) (l : List (List UInt8)), (zs keep k l).length = l.length
  | _, _, [] => rfl
  | keep, k, g :: r => by simp [zs, zs_len keep (k + 1) r]
theorem zs_flat_len : ∀ (keep k : Nat) (l : List (List UInt8)), (zs keep k l).flatten.length = l.flatten.length
  | _, _, [] => rfl
  | keep, k, g :: r => by
    have h := zs_flat_len keep (k + 1) r
    by_cases hs : stays keep k = true <;> simp [zs, hs] <;> simp at h <;> omega
theorem zs_app : ∀ (keep k : Nat) (l m : List (List UInt8)), zs keep k (l ++ m) = zs keep k l ++ zs keep (k + l.length) m
  | _, _, [], _ => by simp [zs]
  | keep, k, g :: r, m => by simp [zs, zs_app keep (k + 1) r m, Nat.add_assoc, Nat.add_comm 1]
theorem lefts_app : ∀ (keep torn k a c : Nat) (l m : List (List UInt8)), lefts keep torn k a c (l ++ m) = lefts keep torn (k + l.length) (a + l.flatten.length) (lefts keep torn k a c l) m
  | _, _, _, _, _, [], _ => by simp [lefts]
  | keep, torn, k, a, c, g :: r, m => by simp [lefts, lefts_app keep torn (k + 1) (a + g.length) _ r m, Nat.add_assoc, Nat.add_comm 1]
/-- What is left lies between what was safe and what is there. -/
theorem lefts_le : ∀ (keep torn k a c b : Nat) (l : List (List UInt8)), b ≤ c → c ≤ a → b ≤ a → b ≤ lefts keep torn k a c l ∧ lefts keep torn k a c l ≤ a + l.flatten.length
  | _, _, _, _, _, _, [], h1, h2, _ => by simp [lefts]; exact ⟨h1, h2⟩
  | keep, torn, k, a, c, b, g :: r, h1, h2, h3 => by
    by_cases hs : stays keep k = true
    · have h := lefts_le keep torn (k + 1) (a + g.length) (a + g.length - min torn g.length) b r (by omega) (by omega) (by omega)
      simp only [lefts, hs, if_true, List.flatten_cons, List.length_append]
      omega
    · have h := lefts_le keep torn (k + 1) (a + g.length) c b r (by omega) (by omega) (by omega)
      simp only [lefts, hs, List.flatten_cons, List.length_append]
      simp only [Bool.false_eq_true, if_false]
      omega
theorem wr_flat (gs : List (List UInt8)) (b : List UInt8) : (wr gs b).flatten = gs.flatten ++ b := by
  unfold wr
  split
  · have e : gs.flatten = (gs.take 63).flatten ++ (gs.drop 63).flatten := by rw [← List.flatten_append, List.take_append_drop]
    rw [e]; simp
  · simp
theorem wr_len (gs : List (List UInt8)) (b : List UInt8) (h : gs.length ≤ 65) : (wr gs b).length ≤ 65 := by
  unfold wr
  split
  · simp; omega
  · simp; omega
theorem write_all (f : Fl) (b : List UInt8) : (f.write b).all = f.all ++ b := by simp [Fl.write, Fl.all, wr_flat]
theorem write_st_few (f : Fl) (b : List UInt8) (h : f.gs.length ≤ 64) : (f.write b).st = f.st ++ [f.all.length] := by
  have hn : ¬ 64 < f.gs.length := by omega
  simp [Fl.write, Fl.st, wr, hn, offs_app, offs, Fl.all]
theorem write_st_many (f : Fl) (b : List UInt8) (h : f.gs.length = 65) : (f.write b).st = f.st.set 64 f.all.length := by
  have hn : 64 < f.gs.length := by omega
  have e : f.gs = f.gs.take 63 ++ f.gs.drop 63 := (List.take_append_drop 63 f.gs).symm
  have hd : (f.gs.drop 63).length = 2 := by simp; omega
  obtain ⟨x, y, hxy⟩ : ∃ x y, f.gs.drop 63 = [x, y] := by
    match hm : f.gs.drop 63, hd with
    | [x, y], _ => exact ⟨x, y, rfl⟩
  have ht : (f.gs.take 63).length = 63 := by simp; omega
  have e1 : f.st = offs f.safe.length (f.gs.take 63 ++ [x, y]) := by rw [← hxy, ← e]; rfl
  have e2 : f.all = f.safe ++ (f.gs.take 63 ++ [x, y]).flatten := by rw [← hxy, ← e]; rfl
  have e3 : (f.write b).st = offs f.safe.length (f.gs.take 63 ++ [x ++ y, b]) := by simp [Fl.write, Fl.st, wr, hn, hxy]
  rw [e1, e2, e3, offs_app, offs_app, List.set_append_right _ _ (by rw [offs_len, ht]; decide), offs_len, ht]
  simp [offs, Nat.add_assoc]
theorem st_len (f : Fl) : f.st.length = f.gs.length := offs_len _ _
theorem st_at (f : Fl) (i : Nat) (h : i < f.gs.length) : f.st[i]? = some (f.safe.length + (f.gs.take i).flatten.length) := offs_at _ _ i h
theorem all_len (f : Fl) : f.all.length = f.safe.length + f.gs.flatten.length := by simp [Fl.all]
theorem sync_st (f : Fl) : f.sync.st = [] := rfl
theorem sync_all (f : Fl) : f.sync.all = f.all := by simp [Fl.sync, Fl.all]
theorem fall_st (keep torn : Nat) (f : Fl) : (f.fall keep torn).st = [] := rfl
theorem fall_all (keep torn : Nat) (f : Fl) : (f.fall keep torn).all = fallen keep torn f := by simp [Fl.fall, Fl.all]
theorem fallen_none (keep torn : Nat) (f : Fl) (h : f.gs = []) : fallen keep torn f = f.all := by simp [fallen, Fl.all, h, zs, lefts]
/-- After i pieces: the bytes, and what is left of them. -/
def zsBytes (keep : Nat) (f : Fl) (i : Nat) : List UInt8 := f.safe ++ (zs keep 0 (f.gs.take i)).flatten ++ (f.gs.drop i).flatten
def leftAt (keep torn : Nat) (f : Fl) (i : Nat) : Nat := lefts keep torn 0 f.safe.length f.safe.length (f.gs.take i)
theorem zsBytes_zero (keep : Nat) (f : Fl) : zsBytes keep f 0 = f.all := by simp [zsBytes, zs, Fl.all]
theorem leftAt_zero (keep torn : Nat) (f : Fl) : leftAt keep torn f 0 = f.safe.length := by simp [leftAt, lefts]
theorem fallen_is (keep torn : Nat) (f : Fl) : fallen keep torn f = (zsBytes keep f f.gs.length).take (leftAt keep torn f f.gs.length) := by simp [fallen, zsBytes, leftAt]
theorem zsBytes_len (keep : Nat) (f : Fl) (i : Nat) : (zsBytes keep f i).length = f.all.length := by
  have h := zs_flat_len keep 0 (f.gs.take i)
  have e : f.gs.flatten.length = (f.gs.take i).flatten.length + (f.gs.drop i).flatten.length := by rw [← List.length_append, ← List.flatten_append, List.take_append_drop]
  unfold zsBytes
  rw [List.length_append, List.length_append, h, all_len]
  omega
theorem leftAt_le (keep torn : Nat) (f : Fl) (i : Nat) : f.safe.length ≤ leftAt keep torn f i ∧ leftAt keep torn f i ≤ f.safe.length + (f.gs.take i).flatten.length :=
  lefts_le keep torn 0 f.safe.length f.safe.length f.safe.length (f.gs.take i) (Nat.le_refl _) (Nat.le_refl _) (Nat.le_refl _)
theorem flat_take_le (l : List (List UInt8)) (i : Nat) : (l.take i).flatten.length ≤ l.flatten.length := by
  have e : l.flatten.length = (l.take i).flatten.length + (l.drop i).flatten.length := by rw [← List.length_append, ← List.flatten_append, List.take_append_drop]
  omega
theorem take_next (l : List (List UInt8)) (i : Nat) (h : i < l.length) : l.take (i + 1) = l.take i ++ [l[i]] := by rw [List.take_add_one, List.getElem?_eq_getElem h]; rfl
theorem drop_flat (l : List (List UInt8)) (i : Nat) (h : i < l.length) : (l.drop i).flatten = l[i] ++ (l.drop (i + 1)).flatten := by rw [List.drop_eq_getElem_cons h]; rfl
theorem take_len (l : List (List UInt8)) (i : Nat) (h : i < l.length) : (l.take i).length = i := by simp; omega
theorem zs_next (keep : Nat) (l : List (List UInt8)) (i : Nat) (h : i < l.length) : (zs keep 0 (l.take (i + 1))).flatten = (zs keep 0 (l.take i)).flatten ++ (if stays keep i then l[i] else List.replicate l[i].length 0) := by
  rw [take_next l i h, zs_app, take_len l i h, Nat.zero_add]
  simp [zs]
theorem lefts_next (keep torn a : Nat) (l : List (List UInt8)) (i : Nat) (h : i < l.length) : lefts keep torn 0 a a (l.take (i + 1)) = if stays keep i then a + (l.take i).flatten.length + l[i].length - min torn l[i].length else lefts keep torn 0 a a (l.take i) := by
  rw [take_next l i h, lefts_app, take_len l i h, Nat.zero_add]
  simp only [lefts]
theorem cut_mid (X m z r : List UInt8) : X ++ z ++ r = (X ++ (m ++ r)).take X.length ++ z ++ (X ++ (m ++ r)).drop (X.length + m.length) := by
  rw [List.take_left, ← List.append_assoc X m r, ← List.length_append, List.drop_left]
theorem zsBytes_yes (keep : Nat) (f : Fl) (i : Nat) (h : i < f.gs.length) (hs : stays keep i = true) : zsBytes keep f (i + 1) = zsBytes keep f i := by
  unfold zsBytes
  rw [zs_next keep f.gs i h, drop_flat f.gs i h, hs, if_pos rfl, List.append_assoc, List.append_assoc, List.append_assoc]
theorem zsBytes_no (keep : Nat) (f : Fl) (i : Nat) (h : i < f.gs.length) (hs : stays keep i = false) :
    zsBytes keep f (i + 1) = (zsBytes keep f i).take (f.safe.length + (f.gs.take i).flatten.length) ++ List.replicate f.gs[i].length 0 ++ (zsBytes keep f i).drop (f.safe.length + (f.gs.take i).flatten.length + f.gs[i].length) := by
  have hl : (f.safe ++ (zs keep 0 (f.gs.take i)).flatten).length = f.safe.length + (f.gs.take i).flatten.length := by rw [List.length_append, zs_flat_len]
  unfold zsBytes
  rw [zs_next keep f.gs i h, drop_flat f.gs i h, hs, ← hl, if_neg (by decide), ← List.append_assoc f.safe]
  exact cut_mid _ _ _ _
theorem leftAt_yes (keep torn : Nat) (f : Fl) (i : Nat) (h : i < f.gs.length) (hs : stays keep i = true) :
    leftAt keep torn f (i + 1) = f.safe.length + (f.gs.take i).flatten.length + f.gs[i].length - min torn f.gs[i].length := by
  unfold leftAt
  rw [lefts_next keep torn _ f.gs i h, hs, if_pos rfl]
theorem leftAt_no (keep torn : Nat) (f : Fl) (i : Nat) (h : i < f.gs.length) (hs : stays keep i = false) : leftAt keep torn f (i + 1) = leftAt keep torn f i := by
  unfold leftAt
  rw [lefts_next keep torn _ f.gs i h, hs]
  rfl
theorem flat_at (l : List (List UInt8)) (i : Nat) (h : i < l.length) : (l.take (i + 1)).flatten.length = (l.take i).flatten.length + l[i].length := by
  rw [take_next l i h, List.flatten_append, List.length_append]
  simp
end Go.Proofs.Ytnpaodhcaeofnaa
