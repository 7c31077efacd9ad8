/-
  The sum of bytes as numbers and lists, for the kernel to reckon: no statement is proved here. Conditions: none.
-/
import Derived.Test.YtmgamjbifffchaaDoorOctB
import Derived.Test.YtmgamjbifffchaaDoorOctC
namespace Go.Proofs.YtmgamjbifffchaaDoor
open Go.RowKit

/-- Turned to the left; to the right; three ways at once; the two small mixers. -/
def rl (x s : Nat) : Nat := (x * 2 ^ s % 4294967296) ||| (x / 2 ^ (32 - s))
def rr (x i : Nat) : Nat := rl x (32 - i)
def tri (v i j k : Nat) : Nat := (rr v i ^^^ rr v j) ^^^ rr v k
def sg0 (x : Nat) : Nat := (rr x 7 ^^^ rr x 18) ^^^ (x / 8)
def sg1 (x : Nat) : Nat := (rr x 17 ^^^ rr x 19) ^^^ (x / 1024)

theorem or32 {a b : Nat} (ha : a < 4294967296) (hb : b < 4294967296) : a ||| b < 4294967296 := Nat.or_lt_two_pow (n := 32) ha hb
theorem xor32 {a b : Nat} (ha : a < 4294967296) (hb : b < 4294967296) : a ^^^ b < 4294967296 := Nat.xor_lt_two_pow (n := 32) ha hb
theorem and32 {a b : Nat} (ha : a < 4294967296) : a &&& b < 4294967296 := Nat.lt_of_le_of_lt Nat.and_le_left ha
theorem rl_lt (x s : Nat) (hx : x < 4294967296) : rl x s < 4294967296 :=
  or32 (Nat.mod_lt _ (by decide)) (Nat.lt_of_le_of_lt (Nat.div_le_self _ _) hx)
theorem rr_lt (x i : Nat) (hx : x < 4294967296) : rr x i < 4294967296 := rl_lt _ _ hx
theorem tri_lt (v i j k : Nat) (hv : v < 4294967296) : tri v i j k < 4294967296 := xor32 (xor32 (rr_lt _ _ hv) (rr_lt _ _ hv)) (rr_lt _ _ hv)
theorem sg0_lt (x : Nat) (hx : x < 4294967296) : sg0 x < 4294967296 := xor32 (xor32 (rr_lt _ _ hx) (rr_lt _ _ hx)) (by omega)
theorem sg1_lt (x : Nat) (hx : x < 4294967296) : sg1 x < 4294967296 := xor32 (xor32 (rr_lt _ _ hx) (rr_lt _ _ hx)) (by omega)

/-- The state: eight words. -/
structure St where
  a : Nat
  b : Nat
  c : Nat
  d : Nat
  e : Nat
  f : Nat
  g : Nat
  h : Nat
def St.ok (s : St) : Prop := s.a < 4294967296 ∧ s.b < 4294967296 ∧ s.c < 4294967296 ∧ s.d < 4294967296 ∧ s.e < 4294967296 ∧ s.f < 4294967296 ∧ s.g < 4294967296 ∧ s.h < 4294967296

/-- What a round adds; the round. -/
def rv (s : St) (k w : Nat) : Nat := (w + (k + s.h + tri s.e 6 11 25 + ((s.e &&& s.f) ^^^ ((4294967295 ^^^ s.e) &&& s.g)))) % 4294967296
def ru (s : St) : Nat := (tri s.a 2 13 22 + (((s.a &&& s.b) ^^^ (s.a &&& s.c)) ^^^ (s.b &&& s.c))) % 4294967296
def rnd (s : St) (k w : Nat) : St := ⟨(rv s k w + ru s) % 4294967296, s.a, s.b, s.c, (s.d + rv s k w) % 4294967296, s.e, s.f, s.g⟩
theorem rnd_ok (s : St) (k w : Nat) (h : s.ok) : (rnd s k w).ok := by
  obtain ⟨ha, hb, hc, hd, he, hf, hg, hh⟩ := h
  exact ⟨Nat.mod_lt _ (by decide), ha, hb, hc, Nat.mod_lt _ (by decide), he, hf, hg⟩

/-- The words of a block, and those that follow them. -/
def wget (w : List Nat) (k : Nat) : Nat := w.getD (w.length - k) 0
def wnext (w : List Nat) : Nat := (wget w 16 + sg0 (wget w 15) + wget w 7 + sg1 (wget w 2)) % 4294967296
def sched : Nat → List Nat → List Nat
  | 0, w => w
  | n + 1, w => sched n (w ++ [wnext w])
theorem sched_len : ∀ (n : Nat) (w : List Nat), (sched n w).length = w.length + n
  | 0, w => rfl
  | n + 1, w => by rw [sched, sched_len n]; simp; omega
def small (w : List Nat) : Prop := ∀ x ∈ w, x < 4294967296
theorem small_app {v w : List Nat} (hv : small v) (hw : small w) : small (v ++ w) := fun x hx => (List.mem_append.1 hx).elim (hv x) (hw x)
theorem wnext_lt (w : List Nat) : wnext w < 4294967296 := Nat.mod_lt _ (by decide)
theorem small_one {x : Nat} (h : x < 4294967296) : small [x] := fun y hy => by simp at hy; omega
theorem sched_small : ∀ (n : Nat) (w : List Nat), small w → small (sched n w)
  | 0, _, h => h
  | n + 1, w, h => sched_small n _ (small_app h (small_one (wnext_lt w)))
def words : Nat → List UInt8 → List Nat
  | 0, _ => []
  | n + 1, l => bn (l.take 4) :: words n (l.drop 4)
theorem words_len : ∀ (n : Nat) (l : List UInt8), (words n l).length = n
  | 0, _ => rfl
  | n + 1, l => by simp [words, words_len n]
theorem words_snoc : ∀ (n : Nat) (l : List UInt8), words (n + 1) l = words n l ++ [bn ((l.drop (4 * n)).take 4)]
  | 0, l => by simp [words]
  | n + 1, l => by
    have e : 4 + 4 * n = 4 * (n + 1) := by omega
    rw [words, words_snoc n (l.drop 4), words, List.cons_append, List.drop_drop, e]
theorem bn4_lt (l : List UInt8) : bn (l.take 4) < 4294967296 := by
  have h := bn_lt _ (l.take 4) rfl
  have h2 : (l.take 4).length ≤ 4 := by simp; omega
  have h3 : 256 ^ (l.take 4).length ≤ 256 ^ 4 := Nat.pow_le_pow_right (by decide) h2
  have h4 : (256 : Nat) ^ 4 = 4294967296 := by decide
  omega
theorem words_small : ∀ (n : Nat) (l : List UInt8), small (words n l)
  | 0, _ => fun x hx => by cases hx
  | n + 1, l => by
    intro x hx
    rcases List.mem_cons.1 hx with rfl | hx
    · exact bn4_lt l
    · exact words_small n _ x hx

/-- The rounds over words, with the table's. -/
def rnds (s : St) : List (Nat × Nat) → St
  | [] => s
  | x :: r => rnds (rnd s x.1 x.2) r
theorem rnds_ok : ∀ (l : List (Nat × Nat)) (s : St), s.ok → (rnds s l).ok
  | [], _, h => h
  | _ :: r, s, h => rnds_ok r _ (rnd_ok s _ _ h)
/-- The two tables, whole. -/
def starts : List Nat := [7640891576956012808, 13503953896175478587, 4354685564936845355, 11912009170470909681, 5840696475078001361, 11170449401992604703, 2270897969802886507, 6620516959819538809]
def table : List Nat := [4794697086780616226, 8158064640168781261, 13096744586834688815, 16840607885511220156, 4131703408338449720, 6480981068601479193, 10538285296894168987, 12329834152419229976, 15566598209576043074, 1334009975649890238, 2608012711638119052, 6128411473006802146, 8268148722764581231, 9286055187155687089, 11230858885718282805, 13951009754708518548, 16472876342353939154, 17275323862435702243, 1135362057144423861, 2597628984639134821, 3308224258029322869, 5365058923640841347, 6679025012923562964, 8573033837759648693, 10970295158949994411, 12119686244451234320, 12683024718118986047, 13788192230050041572, 14330467153632333762, 15395433587784984357, 489312712824947311, 1452737877330783856, 2861767655752347644, 3322285676063803686, 5560940570517711597, 5996557281743188959, 7280758554555802590, 8532644243296465576, 9350256976987008742, 10552545826968843579, 11727347734174303076, 12113106623233404929, 14000437183269869457, 14369950271660146224, 15101387698204529176, 15463397548674623760, 17586052441742319658, 1182934255886127544, 1847814050463011016, 2177327727835720531, 2830643537854262169, 3796741975233480872, 4115178125766777443, 5681478168544905931, 6601373596472566643, 7507060721942968483, 8399075790359081724, 8693463985226723168, 9568029438360202098, 10144078919501101548, 10430055236837252648, 11840083180663258601, 13761210420658862357, 14299343276471374635, 14566680578165727644, 15097957966210449927, 16922976911328602910, 17689382322260857208, 500013540394364858, 748580250866718886, 1242879168328830382, 1977374033974150939, 2944078676154940804, 3659926193048069267, 4368137639120453308, 4836135668995329356, 5532061633213252278, 6448918945643986474, 6902733635092675308, 7801388544844847127]
def K64 : List Nat := table.map (· / 4294967296)
theorem table_len : table.length = 80 := by decide
theorem table_lt : ∀ x ∈ table, x < 18446744073709551616 := by decide
def add8 (s t : St) : St := ⟨(s.a + t.a) % 4294967296, (s.b + t.b) % 4294967296, (s.c + t.c) % 4294967296, (s.d + t.d) % 4294967296, (s.e + t.e) % 4294967296, (s.f + t.f) % 4294967296, (s.g + t.g) % 4294967296, (s.h + t.h) % 4294967296⟩
theorem add8_ok (s t : St) : (add8 s t).ok := ⟨Nat.mod_lt _ (by decide), Nat.mod_lt _ (by decide), Nat.mod_lt _ (by decide), Nat.mod_lt _ (by decide), Nat.mod_lt _ (by decide), Nat.mod_lt _ (by decide), Nat.mod_lt _ (by decide), Nat.mod_lt _ (by decide)⟩
def schedule (blk : List UInt8) : List Nat := sched 48 (words 16 blk)
theorem schedule_len (blk : List UInt8) : (schedule blk).length = 64 := by simp [schedule, sched_len, words_len]
theorem schedule_small (blk : List UInt8) : small (schedule blk) := sched_small _ _ (words_small _ _)
def comp (s : St) (blk : List UInt8) : St := add8 s (rnds s (K64.zip (schedule blk)))
def st0 : St := ⟨1779033703, 3144134277, 1013904242, 2773480762, 1359893119, 2600822924, 528734635, 1541459225⟩
/-- The state behind the first k blocks. -/
def blks (l : List UInt8) : Nat → St
  | 0 => st0
  | k + 1 => comp (blks l k) ((l.drop (64 * k)).take 64)
theorem blks_ok (l : List UInt8) : ∀ k, (blks l k).ok
  | 0 => by simp [blks, St.ok, st0]
  | _ + 1 => add8_ok _ _
theorem blks_app (l m : List UInt8) : ∀ k, 64 * k ≤ l.length → blks (l ++ m) k = blks l k
  | 0, _ => rfl
  | k + 1, h => by
    rw [blks, blks, blks_app l m k (by omega), List.drop_append_of_le_length (by omega), List.take_append_of_le_length (by simp; omega)]
/-- What stands behind n bytes; the sum. -/
def gap (n : Nat) : Nat := (if 64 - n % 64 < 9 then 128 - n % 64 else 64 - n % 64) - 8
def endingOf (n : Nat) : List UInt8 := (128 :: List.replicate (gap n - 1) 0) ++ be (n * 8 % 18446744073709551616) 8
def outOf (s : St) : List UInt8 := be s.a 4 ++ be s.b 4 ++ be s.c 4 ++ be s.d 4 ++ be s.e 4 ++ be s.f 4 ++ be s.g 4 ++ be s.h 4
theorem outOf_len (s : St) : (outOf s).length = 32 := by simp [outOf, be_len]
def padded (l : List UInt8) : List UInt8 := l ++ endingOf l.length
def shaOf (l : List UInt8) : List UInt8 := outOf (blks (padded l) ((padded l).length / 64))
theorem shaOf_len (l : List UInt8) : (shaOf l).length = 32 := outOf_len _
theorem gap_pos (n : Nat) : 1 ≤ gap n ∧ gap n ≤ 120 := by unfold gap; split <;> omega
theorem endingOf_len (n : Nat) : (endingOf n).length = gap n + 8 := by
  have := gap_pos n
  simp [endingOf, be_len]; omega
theorem padded_mod (l : List UInt8) : (padded l).length % 64 = 0 := by
  simp only [padded, List.length_append, endingOf_len, gap]; split <;> omega
end Go.Proofs.YtmgamjbifffchaaDoor
