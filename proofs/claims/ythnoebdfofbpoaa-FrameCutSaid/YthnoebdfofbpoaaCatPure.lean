/- Frames one behind the other, and a cut through them: plain mathematics. -/
import Derived.Test.YthnoebdfofbpoaaFrList
import Derived.Test.YthnoebdfofbpoaaFrSpoil
namespace Go.Proofs.Ythnoebdfofbpoaa

/-- The frames of payloads. -/
def catS : List ByteArray → ByteArray
  | [] => ⟨#[]⟩
  | p :: l => frameS p ++ catS l

theorem nil_app (t : ByteArray) : (⟨#[]⟩ : ByteArray) ++ t = t := by
  apply ByteArray.ext
  simp

theorem app_nil (t : ByteArray) : t ++ (⟨#[]⟩ : ByteArray) = t := by
  apply ByteArray.ext
  simp

theorem catS_append (l m : List ByteArray) : catS (l ++ m) = catS l ++ catS m := by
  induction l with
  | nil => exact (nil_app _).symm
  | cons p l ih =>
    show frameS p ++ catS (l ++ m) = frameS p ++ catS l ++ catS m
    rw [ih, ByteArray.append_assoc]

theorem catS_one (p : ByteArray) : catS [p] = frameS p := app_nil _

theorem catS_room : ∀ l : List ByteArray, l.length * 12 ≤ (catS l).size
  | [] => by simp
  | p :: l => by
    have ih := catS_room l
    show (l.length + 1) * 12 ≤ (frameS p ++ catS l).size
    rw [ByteArray.size_append, frameS_size]
    omega

theorem catS_succ (l : List ByteArray) (k : Nat) (h : k < l.length) : catS (l.take (k + 1)) = catS (l.take k) ++ frameS l[k] := by
  rw [List.take_succ_eq_append_getElem h, catS_append, catS_one]

theorem catS_split (l : List ByteArray) (k : Nat) : catS l = catS (l.take k) ++ catS (l.drop k) := by
  rw [← catS_append, List.take_append_drop]

theorem ext_app_left (a b : ByteArray) : (a ++ b).extract 0 a.size = a := by
  rw [← bs_eq ((a ++ b).extract 0 a.size), ext_list, List.drop_zero]
  have : (a ++ b).data.toList = a.data.toList ++ b.data.toList := by simp
  rw [this, ← list_size, List.take_left, bs_eq]

theorem ext_app_right (a b : ByteArray) (n : Nat) (h : (a ++ b).size ≤ n) : (a ++ b).extract a.size n = b := by
  rw [← bs_eq ((a ++ b).extract a.size n), ext_list]
  have : (a ++ b).data.toList = a.data.toList ++ b.data.toList := by simp
  rw [this, List.take_of_length_le (by rw [ByteArray.size_append, ← list_size, ← list_size b] at h; simpa using h), ← list_size, List.drop_left, bs_eq]

theorem ext_ext (s : ByteArray) (a b c d : Nat) (h : a + d ≤ b) : (s.extract a b).extract c d = s.extract (a + c) (a + d) := by
  rw [← bs_eq ((s.extract a b).extract c d), ext_list, ext_list, ← bs_eq (s.extract (a + c) (a + d)), ext_list]
  rw [List.take_drop, List.take_take, List.drop_drop, Nat.min_eq_left h]

/-- What stands in a frame, whatever stands behind it. -/
theorem frame_parts (p t : ByteArray) (hp : p.size ≤ 4096) :
    be4 (frameS p ++ t) 0 = p.size ∧ (frameS p ++ t).extract 0 8 = sm (numS 4 p.size) ∧ (frameS p ++ t).extract 8 (p.size + 12) = sm p ∧ (frameS p ++ t).extract 8 (p.size + 8) = p := by
  have h8 : (sm (numS 4 p.size)).size = 8 := by rw [sm_size, numS_size]
  have hm := sm_size p
  have hf := frameS_size p
  have e1 : frameS p ++ t = sm (numS 4 p.size) ++ (sm p ++ t) := by unfold frameS; rw [ByteArray.append_assoc]
  have e2 : (frameS p ++ t).extract 8 (p.size + 12) = sm p := by
    have h1 : (frameS p ++ t).extract 0 (frameS p).size = frameS p := ext_app_left _ _
    rw [hf] at h1
    have h2 := ext_app_right (sm (numS 4 p.size)) (sm p) (p.size + 12) (by rw [ByteArray.size_append]; omega)
    rw [h8] at h2
    have h3 := ext_ext (frameS p ++ t) 0 (p.size + 12) 8 (p.size + 12) (by omega)
    rw [h1] at h3
    simp only [Nat.zero_add] at h3
    rw [← h3]
    exact h2
  refine ⟨?_, ?_, e2, ?_⟩
  · have h := be4_head p (by omega) (sm p ++ t).data.toList
    have : bs ((sm (numS 4 p.size)).data.toList ++ (sm p ++ t).data.toList) = frameS p ++ t := by
      rw [e1, ← bs_eq (sm (numS 4 p.size) ++ (sm p ++ t))]
      exact congrArg bs (by simp)
    rw [this] at h
    exact h
  · rw [e1]
    have := ext_app_left (sm (numS 4 p.size)) (sm p ++ t)
    rw [h8] at this
    exact this
  · have h3 := ext_ext (frameS p ++ t) 8 (p.size + 12) 0 p.size (by omega)
    rw [e2] at h3
    rw [show p.size + 8 = 8 + p.size from by omega]
    rw [← h3]
    exact ext_app_left p _

theorem take_frame (p t : ByteArray) (hp : p.size ≤ 4096) : takeF (frameS p ++ t) = (p, p.size + 12, 0) := by
  obtain ⟨h1, h2, h3, h4⟩ := frame_parts p t hp
  have hz : (frameS p ++ t).size = p.size + 12 + t.size := by rw [ByteArray.size_append, frameS_size]
  unfold takeF
  rw [h1, h2, h3, h4, whole_sm, whole_sm, if_neg (by omega), if_neg (by simp; omega), if_neg (by omega), if_neg (by simp)]

theorem take_short (s : ByteArray) (h : s.size < 8) : (takeF s).2.2 = 30 := by
  unfold takeF
  rw [if_pos h]

theorem take_cut (p t : ByteArray) (hp : p.size ≤ 4096) (k : Nat) (hk : k < p.size + 12) : (takeF ((frameS p ++ t).extract 0 k)).2.2 = 30 := by
  obtain ⟨h1, h2, _, _⟩ := frame_parts p t hp
  have hz : (frameS p ++ t).size = p.size + 12 + t.size := by rw [ByteArray.size_append, frameS_size]
  have hzk : ((frameS p ++ t).extract 0 k).size = k := by rw [ByteArray.size_extract]; omega
  by_cases h8 : k < 8
  · exact take_short _ (by omega)
  · have hb := be4_ext (frameS p ++ t) 0 k 0 (by omega)
    have he := ext_ext (frameS p ++ t) 0 k 0 8 (by omega)
    rw [Nat.zero_add, h1] at hb
    rw [Nat.zero_add, Nat.zero_add, h2] at he
    unfold takeF
    rw [hb, he, whole_sm, hzk, if_neg (by omega), if_neg (by simp; omega), if_pos hk]

/-- Where the frames of payloads lie. -/
def lay : Nat → List ByteArray → List (Nat × ByteArray)
  | _, [] => []
  | p, q :: r => (p, q) :: lay (p + (q.size + 12)) r

theorem lay_pay : ∀ (l : List ByteArray) (p : Nat), (lay p l).map (·.2) = l
  | [], _ => rfl
  | q :: r, p => by show q :: (lay _ r).map (·.2) = _; rw [lay_pay r]

def goodP : List (Nat × ByteArray) → Nat
  | [] => 0
  | x :: l => if l = [] then x.1 + x.2.size + 12 else goodP l

theorem goodF_map : ∀ l : List FrX, goodF l = goodP (l.map (·.1))
  | [] => rfl
  | x :: l => by
    show (if l = [] then _ else goodF l) = (if l.map (·.1) = [] then _ else goodP (l.map (·.1)))
    rw [goodF_map l]
    simp only [List.map_eq_nil_iff]

theorem goodP_lay : ∀ (l : List ByteArray) (p : Nat), goodP (lay p l) = if l = [] then 0 else p + (catS l).size
  | [], _ => rfl
  | q :: r, p => by
    show (if lay (p + (q.size + 12)) r = [] then p + q.size + 12 else goodP (lay (p + (q.size + 12)) r)) = _
    rw [goodP_lay r]
    cases r with
    | nil =>
      simp only [lay, if_true, List.cons_ne_nil, if_false]
      rw [catS_one, frameS_size]
      omega
    | cons x r =>
      simp only [lay, List.cons_ne_nil, if_false]
      show _ = p + (frameS q ++ catS (x :: r)).size
      rw [ByteArray.size_append, frameS_size]
      omega

theorem framesGo_lay (s : ByteArray) (hs : s.size ≤ 1048576) (t : ByteArray) (ht : (takeF t).2.2 ≠ 0) : ∀ (l : List ByteArray) (k p : Nat), p ≤ s.size → l.length < k → (∀ q ∈ l, q.size ≤ 4096) → from_ s p = catS l ++ t →
    (framesGo s k p).map (·.1) = lay p l
  | [], k, p, _, _, _, hf => by
    rw [show catS [] ++ t = t from nil_app t] at hf
    rw [framesGo_no s k p (by rw [hf]; exact ht)]
    rfl
  | q :: r, 0, p, _, hk, _, _ => by simp at hk
  | q :: r, k + 1, p, hp, hk, hq, hf => by
    have hcat : catS (q :: r) ++ t = frameS q ++ (catS r ++ t) := by
      show frameS q ++ catS r ++ t = _
      rw [ByteArray.append_assoc]
    rw [hcat] at hf
    have hqz := hq q (by simp)
    have htk : takeF (from_ s p) = (q, q.size + 12, 0) := by rw [hf]; exact take_frame q _ hqz
    have hz : (from_ s p).size = q.size + 12 + (catS r ++ t).size := by rw [hf, ByteArray.size_append, frameS_size]
    rw [from_size s p hp] at hz
    have hnext : from_ s (p + (q.size + 12)) = catS r ++ t := by
      have h1 := ext_ext s p s.size (q.size + 12) (s.size - p) (by omega)
      have h2 := ext_app_right (frameS q) (catS r ++ t) (s.size - p) (by rw [ByteArray.size_append, frameS_size]; omega)
      rw [frameS_size, ← hf] at h2
      have h3 : from_ s (p + (q.size + 12)) = s.extract (p + (q.size + 12)) (p + (s.size - p)) := by
        unfold from_
        rw [show p + (s.size - p) = s.size from by omega]
      rw [h3, ← h1]
      exact h2
    rw [framesGo_yes s k p hp hs (by rw [htk])]
    have ih := framesGo_lay s hs t ht r k (p + (q.size + 12)) (by omega) (by simpa using hk) (fun x hx => hq x (by simp [hx])) hnext
    simp only [List.map_cons, htk]
    rw [ih]
    rfl

/-- The frames of payloads behind which no frame stands. -/
theorem frames_cat (l : List ByteArray) (t : ByteArray) (hq : ∀ q ∈ l, q.size ≤ 4096) (hs : (catS l ++ t).size ≤ 1048576) (ht : (takeF t).2.2 ≠ 0) :
    payF (framesF (catS l ++ t)) = l ∧ goodF (framesF (catS l ++ t)) = (catS l).size := by
  have hr := catS_room l
  have hz : (catS l ++ t).size = (catS l).size + t.size := ByteArray.size_append
  have h0 : from_ (catS l ++ t) 0 = catS l ++ t := ext_zero _ _ (Nat.le_refl _)
  have h := framesGo_lay (catS l ++ t) hs t ht l ((catS l ++ t).size + 1) 0 (Nat.zero_le _) (by omega) hq h0
  refine ⟨?_, ?_⟩
  · have e : payF (framesF (catS l ++ t)) = ((framesF (catS l ++ t)).map (·.1)).map (·.2) := by simp [payF]
    rw [e]
    unfold framesF
    rw [h, lay_pay]
  · rw [goodF_map]
    unfold framesF
    rw [h, goodP_lay]
    by_cases hl : l = []
    · rw [if_pos hl, hl]; rfl
    · rw [if_neg hl, Nat.zero_add]

/-- How many frames lie ahead of a cut whole. -/
def AheadOf (l : List ByteArray) (z n : Nat) : Prop := n ≤ l.length ∧ (catS (l.take n)).size ≤ z

theorem cut_at (l : List ByteArray) (z n : Nat) (hq : ∀ q ∈ l, q.size ≤ 4096) (hz : z ≤ (catS l).size) (h : AheadOf l z n) (hn : n < l.length → z < (catS (l.take (n + 1))).size) :
    (takeF ((catS l).extract (catS (l.take n)).size z)).2.2 = 30 ∧ (catS l).extract 0 z = catS (l.take n) ++ (catS l).extract (catS (l.take n)).size z := by
  obtain ⟨h1, h2⟩ := h
  have hsp := catS_split l n
  obtain ⟨A, hA⟩ : ∃ A, A = catS (l.take n) := ⟨_, rfl⟩
  obtain ⟨B, hB⟩ : ∃ B, B = catS (l.drop n) := ⟨_, rfl⟩
  have hsz : (catS l).size = A.size + B.size := by rw [hsp, ByteArray.size_append, hA, hB]
  rw [← hA] at h2 ⊢
  rw [← hA, ← hB] at hsp
  have hr : (catS l).extract A.size z = B.extract 0 (z - A.size) := by
    have e1 := ext_ext (catS l) A.size (catS l).size 0 (z - A.size) (by omega)
    have e2 := ext_app_right A B (catS l).size (by rw [ByteArray.size_append]; omega)
    rw [← hsp] at e2
    rw [e2] at e1
    rw [e1, Nat.add_zero, show A.size + (z - A.size) = z from by omega]
  refine ⟨?_, ?_⟩
  · rw [hr]
    by_cases hlt : n < l.length
    · have h3 := hn hlt
      rw [catS_succ l n hlt, ByteArray.size_append, frameS_size, ← hA] at h3
      have hBe : B = frameS l[n] ++ catS (l.drop (n + 1)) := by
        rw [hB, List.drop_eq_getElem_cons hlt]
        rfl
      rw [hBe]
      exact take_cut _ _ (hq _ (List.getElem_mem hlt)) _ (by omega)
    · have : B = ⟨#[]⟩ := by rw [hB, List.drop_of_length_le (by omega)]; rfl
      refine take_short _ ?_
      rw [ByteArray.size_extract, this]
      show min _ 0 - 0 < 8
      omega
  · rw [hr]
    have e1 : (catS l).extract 0 z = bs ((catS l).data.toList.take z) := by rw [← bs_eq ((catS l).extract 0 z), ext_list, List.drop_zero]
    have e2 : B.extract 0 (z - A.size) = bs (B.data.toList.take (z - A.size)) := by rw [← bs_eq (B.extract 0 (z - A.size)), ext_list, List.drop_zero]
    have e3 : (catS l).data.toList = A.data.toList ++ B.data.toList := by rw [hsp]; simp
    rw [e1, e2, e3, List.take_append, list_size, List.take_of_length_le (by rw [list_size]; exact h2)]
    rw [← bs_eq (A ++ _)]
    exact congrArg bs (by rw [ByteArray.data_append, Array.toList_append, bs_list])

end Go.Proofs.Ythnoebdfofbpoaa
