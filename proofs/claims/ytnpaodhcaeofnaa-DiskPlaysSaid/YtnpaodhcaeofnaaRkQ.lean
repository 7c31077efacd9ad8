/-
  The document's own disk as the program's: each act of the one is the act of the other. Conditions: none.
-/
import Derived.Test.YtnpaodhcaeofnaaRkP
namespace Go.Proofs.Ytnpaodhcaeofnaa

def toF (f : Rf) : Fl := ⟨f.safe, gsOf f.ws⟩
def Rk.toD (T : Rk) : Dk := ⟨T.room, !T.pf, T.lives, onL toF T.L⟩
theorem toF_all (f : Rf) : (toF f).all = f.all := by simp [toF, Fl.all, Rf.all, gsOf_flat]
theorem toF_add (f : Rf) (l : List UInt8) : toF (f.add l) = (toF f).write l := by simp [toF, Rf.add, Fl.write, gsOf_snoc]
theorem toF_syn (f : Rf) : toF f.syn = (toF f).sync := by
  have h := toF_all f
  simp only [Rf.syn, Fl.sync]
  rw [h]; rfl
theorem toF_fall (keep tn : Nat) (f : Rf) : toF (f.fall keep tn) = (toF f).fall keep tn := by
  have h1 := rfall_is keep tn f
  have h2 := gsOf_fallen keep tn f.safe f.ws
  have e : toF (f.fall keep tn) = ⟨(f.fall keep tn).safe, []⟩ := rfl
  rw [e, h1]
  unfold Fl.fall toF
  rw [h2]
theorem toD_get (T : Rk) (s : ByteArray) : getL T.toD.C s = (getL T.L s).map toF := getL_onL toF T.L s
theorem toD_ready (T : Rk) (s : ByteArray) : readyE T.toD.on s = if T.pf then 7 else if may s then 0 else 1 := by
  show readyE (!T.pf) s = _
  unfold readyE
  cases T.pf <;> simp
theorem toD_ask (T : Rk) (s : ByteArray) : askE T.toD s = raskE T.pf T.L s := by
  unfold askE raskE
  rw [toD_ready, toD_get]
  cases T.pf <;> cases may s <;> simp
theorem toD_read (T : Rk) (s : ByteArray) : readB T.toD s = rreadB T.pf T.L s := by
  unfold readB rreadB
  rw [toD_ask, toD_get, Option.map_map]
  have e : (Fl.all ∘ toF) = Rf.all := funext toF_all
  rw [e]
theorem toD_size (T : Rk) : T.toD.size = sumL rfz T.L := by
  show sumL fsz (onL toF T.L) = _
  rw [sumL_onL]
  have e : (fun a => fsz (toF a)) = rfz := funext fun f => by unfold fsz rfz; rw [toF_all]
  rw [e]
theorem toD_siz (T : Rk) : T.toD.siz = if T.pf then 0 else ((sumL rfz T.L : Nat) : Int) := by
  unfold Dk.siz
  rw [toD_size]
  show (if (!T.pf) = true then _ else _) = _
  cases T.pf <;> simp
theorem toD_appE (T : Rk) (s : ByteArray) (n : Nat) : appE T.toD s n = rappE T s n := by
  unfold appE rappE
  rw [toD_ready, toD_size]
  show (if _ then (if T.room - _ < n then _ else _) else _) = _
  unfold raskE
  cases T.pf <;> cases may s <;> cases (getL T.L s).isSome <;> simp
theorem toD_renE (T : Rk) (s t : ByteArray) : renE T.toD s t = rrenE T.pf T.L s t := by
  unfold renE rrenE
  rw [toD_ready, toD_ask]
  unfold raskE
  cases T.pf <;> cases may s <;> cases may t <;> simp
theorem toD_syn (T : Rk) (s : ByteArray) : T.toD.syn s = (T.syn s).toD := by
  unfold Dk.syn Rk.syn
  rw [toD_ask]
  split
  · have e := onL_upd toF T.L s Rf.syn Fl.sync toF_syn
    simp only [Rk.toD, e]
  · rfl
theorem toD_drp (T : Rk) (s : ByteArray) : T.toD.drp s = (T.drp s).toD := by
  unfold Dk.drp Rk.drp
  rw [toD_ask]
  split
  · have e := onL_del toF T.L s
    simp only [Rk.toD, e]
  · rfl
theorem toD_ren (T : Rk) (s t : ByteArray) : T.toD.ren s t = (T.ren s t).toD := by
  unfold Dk.ren Rk.ren
  rw [toD_renE, toD_get]
  split
  · split
    · rfl
    · cases getL T.L s with
      | none => rfl
      | some f =>
        have e := onL_app toF (del (del T.L s) t) [(t, f)]
        rw [onL_del, onL_del] at e
        simp only [Option.map_some, Rk.toD, e]
        rfl
  · rfl
theorem toD_app (T : Rk) (s : ByteArray) (l : List UInt8) : T.toD.app s l = (T.app s l).toD := by
  unfold Dk.app Rk.app
  rw [toD_appE]
  split
  · have e : putW T.toD.C s l = onL toF (putR T.L s l) := by
      unfold putW putR
      rw [toD_get]
      cases hg : getL T.L s with
      | none =>
        rw [if_neg (by simp), if_neg (by simp), onL_app]
        show onL toF T.L ++ _ = _
        congr 1
      | some f =>
        rw [if_pos (by simp), if_pos (by simp), onL_upd toF T.L s (·.add l) (·.write l) (fun a => toF_add a l)]
        rfl
    rw [e]; rfl
  · rfl
theorem toD_awake (T : Rk) : T.toD.awake = T.awake.toD := rfl
theorem toD_crs (T : Rk) (keep tn : Nat) : T.toD.crs keep tn = ({ T with pf := true, L := onL (Rf.fall keep tn) T.L } : Rk).toD := by
  have e : onL toF (onL (Rf.fall keep tn) T.L) = onL (Fl.fall keep tn) (onL toF T.L) := by
    simp only [onL, List.map_map]
    congr 1
    funext x
    simp only [Function.comp, toF_fall]
  simp only [Dk.crs, Rk.toD, e]
  rfl
/-- One name, one file: of the one as of the other. -/
theorem one_of (T : Rk) (h : One T.toD.C) : One T.L := by
  have h2 : (onL toF T.L).Pairwise fun x y => x.1 ≠ y.1 := h
  unfold onL at h2
  rw [List.pairwise_map] at h2
  exact h2
/-- How many files and writes at most. -/
structure Rk.Few (T : Rk) (k : Nat) : Prop where
  len : T.L.length ≤ k
  ws : ∀ x ∈ T.L, x.2.ws.length ≤ k
  lives : T.lives ≤ k + 1
section
variable {T : Rk} {k : Nat}
theorem Rk.Few.more (h : T.Few k) : T.Few (k + 1) := ⟨Nat.le_succ_of_le h.len, fun x hx => Nat.le_succ_of_le (h.ws x hx), Nat.le_succ_of_le h.lives⟩
theorem upd_mem {α : Type} {L : List (ByteArray × α)} {s : ByteArray} {f : α → α} {x : ByteArray × α} (h : x ∈ upd L s f) : ∃ y ∈ L, x = y ∨ x = (y.1, f y.2) := by
  unfold upd at h
  obtain ⟨y, h1, h2⟩ := List.mem_map.1 h
  refine ⟨y, h1, ?_⟩
  split at h2
  · exact .inr h2.symm
  · exact .inl h2.symm
theorem upd_length {α : Type} (L : List (ByteArray × α)) (s : ByteArray) (f : α → α) : (upd L s f).length = L.length := by simp [upd]
theorem del_length {α : Type} (L : List (ByteArray × α)) (s : ByteArray) : (del L s).length ≤ L.length := List.length_filter_le _ _
theorem getL_at_mem {α : Type} {L : List (ByteArray × α)} {s : ByteArray} {f : α} (h : getL L s = some f) : ∃ x ∈ L, x.2 = f := by
  unfold getL at h
  obtain ⟨x, h1, h2⟩ := Option.map_eq_some_iff.1 h
  exact ⟨x, List.mem_of_find?_eq_some h1, h2⟩
theorem Rk.Few.syn (h : T.Few k) (s : ByteArray) : (T.syn s).Few (k + 1) := by
  unfold Rk.syn
  split
  · refine ⟨?_, fun x hx => ?_, Nat.le_succ_of_le h.lives⟩
    · show (upd T.L s _).length ≤ _
      rw [upd_length]; exact Nat.le_succ_of_le h.len
    · obtain ⟨y, h1, rfl | rfl⟩ := upd_mem hx
      · exact Nat.le_succ_of_le (h.ws _ h1)
      · exact Nat.zero_le _
  · exact h.more
theorem Rk.Few.drp (h : T.Few k) (s : ByteArray) : (T.drp s).Few (k + 1) := by
  unfold Rk.drp
  split
  · exact ⟨Nat.le_trans (del_length T.L s) (Nat.le_succ_of_le h.len), fun x hx => Nat.le_succ_of_le (h.ws x ((List.mem_filter.1 hx).1)), Nat.le_succ_of_le h.lives⟩
  · exact h.more
theorem Rk.Few.ren (h : T.Few k) (s t : ByteArray) : (T.ren s t).Few (k + 1) := by
  unfold Rk.ren
  split
  · split
    · exact h.more
    · split
      · rename_i f hf
        obtain ⟨y, hy, rfl⟩ := getL_at_mem hf
        refine ⟨?_, fun x hx => ?_, Nat.le_succ_of_le h.lives⟩
        · have h1 := del_length T.L s
          have h2 := del_length (del T.L s) t
          have h3 := h.len
          show (del (del T.L s) t ++ [(t, y.2)]).length ≤ _
          rw [List.length_append]
          show (del (del T.L s) t).length + 1 ≤ _
          omega
        · rcases List.mem_append.1 hx with hx | hx
          · exact Nat.le_succ_of_le (h.ws x (List.mem_filter.1 (List.mem_filter.1 hx).1).1)
          · obtain rfl := List.mem_singleton.1 hx
            exact Nat.le_succ_of_le (h.ws y hy)
      · exact h.more
  · exact h.more
theorem Rk.Few.app (h : T.Few k) (s : ByteArray) (l : List UInt8) : (T.app s l).Few (k + 1) := by
  unfold Rk.app
  split
  · have h3 := h.len
    refine ⟨?_, fun x hx => ?_, Nat.le_succ_of_le h.lives⟩
    · show (putR T.L s l).length ≤ _
      unfold putR
      split
      · rw [upd_length]; omega
      · rw [List.length_append]
        show T.L.length + 1 ≤ _
        omega
    · have hx' : x ∈ putR T.L s l := hx
      unfold putR at hx'
      split at hx'
      · obtain ⟨y, h1, rfl | rfl⟩ := upd_mem hx'
        · exact Nat.le_succ_of_le (h.ws _ h1)
        · have := h.ws _ h1
          simp only [Rf.add, List.length_append, List.length_cons, List.length_nil]
          omega
      · rcases List.mem_append.1 hx' with hx | hx
        · exact Nat.le_succ_of_le (h.ws x hx)
        · obtain rfl := List.mem_singleton.1 hx
          simp [Rf.add]
  · exact h.more
theorem Rk.Few.awake (h : T.Few k) : T.awake.Few (k + 1) := ⟨Nat.le_succ_of_le h.len, fun x hx => Nat.le_succ_of_le (h.ws x hx), Nat.succ_le_succ h.lives⟩
theorem Rk.Few.fall (h : T.Few k) (keep tn : Nat) : ({ T with pf := true, L := onL (Rf.fall keep tn) T.L } : Rk).Few (k + 1) := by
  refine ⟨?_, fun x hx => ?_, Nat.le_succ_of_le h.lives⟩
  · show (onL (Rf.fall keep tn) T.L).length ≤ _
    unfold onL
    rw [List.length_map]; exact Nat.le_succ_of_le h.len
  · obtain ⟨y, _, rfl⟩ := List.mem_map.1 (show x ∈ T.L.map fun x => (x.1, x.2.fall keep tn) from hx)
    exact Nat.zero_le _
end
end Go.Proofs.Ytnpaodhcaeofnaa
