/- append, copy, clear; lengths, slices, texts; values of interfaces, functions; maps. -/
import Derived.Test.YtpnccmlajhhpdaaAbs6
namespace Go.Proofs.Ytpnccmlajhhpdaa.Abs
noncomputable section
open Go.RowKit

section
variable {P : Program} {m : Map} {w0 : Base} {w : World} {H H' : AHeap} {nx : ANext}

/-! ### append -/
/-- the cells that are put behind, in whatever world of the same cells -/
def Gives (P : Program) (w : World) (size n : Nat) (x : Value) (news : List Value) : Prop := ∀ w' : World, (∀ a, w'.cell? a = w.cell? a) → (Builtin.firstCells size n x).run P w' = .ok news.toArray w'
theorem gives_slice {g o k cap size n : Nat} {cs : List Value} (hc : w.rangeAt g o cs) (hl : cs.length = n * size) : Gives P w size n (.slice (some ⟨g, o, none⟩) k cap) cs := fun w' hw =>
  run_firstCells_some w' size n ⟨g, o, none⟩ k cap cs hl (fun j v hv => by rw [Addr.add_mid, hw]; exact hc j v hv)
theorem gives_none (size n k cap : Nat) : Gives P w size n (.slice none k cap) [] := fun w' _ => run_firstCells_none w' size n k cap
theorem gives_empty (a : Addr) (size k cap : Nat) : Gives P w size 0 (.slice (some a) k cap) [] := fun w' _ => run_firstCells_some w' size 0 a k cap [] (by simp) (fun j v hv => by simp at hv)
def byteCells (l : List UInt8) : List Value := l.map fun b => .int .u8 b.toNat
theorem gives_string (s : ByteArray) (size n : Nat) : Gives P w size n (.string s) (byteCells (s.data.toList.take n)) := fun w' _ => by
  simp only [Builtin.firstCells, Sem.run_pure]
  congr 1
  apply Array.ext'
  simp [byteCells]

theorem run_append_room' {t u e : TypeId} {i : TypeInfo} {ud : TypeDesc} (ts : Array TypeId) (ty : TypeId) (h0 : ts[0]? = some t) (h1 : ts[1]? = some u) (ht : P.underlying t = some (.slice e)) (hu : P.underlying u = some ud) (hud : ∀ k, ud ≠ .int k) (hi : P.info? e = some i)
    {g o sLen sCap n : Nat} {x : Value} {news : List Value} (hl : (Builtin.lenOf x).run P w = .ok n w) (hn : Gives P w i.size n x news) (hroom : sLen + n ≤ sCap) (hth : w.there g (o + sLen * i.size) news.length) (hone : ∀ v ∈ news, v.oneCell' = true) :
    (Builtin.append_ ts ty #[.slice (some ⟨g, o, none⟩) sLen sCap, x]).run P w = .ok (.slice (some ⟨g, o, none⟩) (sLen + n) sCap) (w.setCells g (o + sLen * i.size) news) := by
  have hst := run_storeCells_cells (P := P) g (o + sLen * i.size) news 0 w (fun j hj => by simpa using (hth j hj).1) (fun j hj => by simpa using (hth j hj).2) hone
  simp only [Nat.add_zero] at hst
  have hz : (match ud with | .int _ => true | _ => false) = false := by cases ud <;> first | rfl | exact absurd rfl (hud _)
  have hf := hn w (fun _ => rfl)
  have hadd : (⟨g, o, none⟩ : Addr).add (sLen * i.size) = ⟨g, o + sLen * i.size, none⟩ := Addr.add_mid _ _ _
  simp [Builtin.append_, h0, h1, run_underlying ht, run_underlying hu, sizeOf, typeInfo, hi, hl, hroom, hf, hadd, hst]
theorem run_append_grow' {t u e : TypeId} {i : TypeInfo} {z : Value} {ud : TypeDesc} (ts : Array TypeId) (ty : TypeId) (h0 : ts[0]? = some t) (h1 : ts[1]? = some u) (ht : P.underlying t = some (.slice e)) (hu : P.underlying u = some ud) (hud : ∀ k, ud ≠ .int k) (hi : P.info? e = some i) (hz : i.zero = some z)
    {base : Option Addr} {sLen sCap n : Nat} {x : Value} {olds news : List Value} (hl : (Builtin.lenOf x).run P w = .ok n w) (ho : Gives P w i.size sLen (.slice base sLen sCap) olds) (hn : Gives P w i.size n x news)
    (hg : sCap < sLen + n) (h63 : sLen + n ≤ 9223372036854775807) (hfit : Builtin.nextslicecap (sLen + n) sCap * i.bytes ≤ 281474976710656) :
    (Builtin.append_ ts ty #[.slice base sLen sCap, x]).run P w = .ok (.slice (some ⟨w.heap.size, 0, none⟩) (sLen + n) (grownCap w (sLen + n) sCap e))
        (w.drew.alloc (.cells ((olds ++ news) ++ (Builtin.zeroCells z.cells (grownCap w (sLen + n) sCap e - (sLen + n))).toList).toArray e)) := by
  have hz' : (match ud with | .int _ => true | _ => false) = false := by cases ud <;> first | rfl | exact absurd rfl (hud _)
  have hn1 : ¬ (sLen + n ≤ sCap) := by omega
  have h63' : ¬ (9223372036854775807 < ((sLen : Int) + (n : Int))) := by omega
  have h48' : ¬ (281474976710656 < Builtin.nextslicecap (sLen + n) sCap * i.bytes) := by omega
  have hf := hn w.drew (fun _ => rfl)
  have hfo := ho w.drew (fun _ => rfl)
  simp [Builtin.append_, h0, h1, run_underlying ht, run_underlying hu, sizeOf, typeInfo, zeroValue, hi, hz, hl, hn1, h63', h48', Question.forced, hf, hfo, newRow, grownCap]
  congr 2
  apply Array.ext'
  simp

theorem strCells_ok (m : Map) : ∀ (l : List UInt8) (n : Nat), n ≤ l.length → RelL m (strCells n (enc l)) (byteCells (l.take n))
  | l, 0, _ => by simpa [strCells, byteCells] using RelL.nil
  | [], n + 1, h => by simp at h
  | b :: l, n + 1, h => by
    have hb := u8_lt b
    have e1 : enc (b :: l) % 256 = b.toNat := by rw [enc_cons]; omega
    have e2 : enc (b :: l) / 256 = enc l := by rw [enc_cons]; omega
    simp only [strCells, e1, e2, List.take_succ_cons, byteCells, List.map_cons]
    exact .cons (.int .u8 _) (strCells_ok m l n (by simpa using h))
theorem byteCells_one (l : List UInt8) : ∀ v ∈ byteCells l, v.oneCell' = true := by
  intro v hv
  unfold byteCells at hv
  obtain ⟨b, _, rfl⟩ := List.mem_map.1 hv
  rfl
/-- the elements of what is put behind, or copied -/
theorem first_ok (F : Fits w0 m H w) {x : AV} {x' : Value} (hx : Rel m x x') {k n size : Nat} {l : List AV} (hk : lenA x = some k) (hn : n ≤ k) (h : firstA H size n x = some l) :
    (Builtin.lenOf x').run P w = .ok k w ∧ ∃ l', RelL m l l' ∧ l'.length = n * size ∧ Gives P w size n x' l' := by
  unfold firstA at h
  split at h
  · split at h
    · rename_i b o q sz hc
      obtain ⟨rfl, hq⟩ := hc
      cases hx with | sl hm h1 h2 =>
      simp only [lenA, Option.some.injEq] at hk; subst hk
      obtain ⟨l', r1, r2, r3, r4⟩ := rowGet_ok F hm h
      exact ⟨by simp [Builtin.lenOf], l', r1, r2, gives_slice r3 r2⟩
    · cases h
  · split at h
    · rename_i h0
      simp only [Option.some.injEq] at h; subst h; subst h0
      cases hx
      simp only [lenA, Option.some.injEq] at hk; subst hk
      exact ⟨by simp [Builtin.lenOf], [], .nil, by simp, gives_empty _ _ _ _⟩
    · cases h
  · split at h
    · rename_i h0
      simp only [Option.some.injEq] at h; subst h; subst h0
      cases hx
      simp only [lenA, Option.some.injEq] at hk; subst hk
      exact ⟨by simp [Builtin.lenOf], [], .nil, by simp, gives_none _ _ _ _⟩
    · cases h
  · split at h
    · rename_i a b hle
      obtain ⟨hle, hs1⟩ := hle
      simp only [Option.some.injEq] at h; subst h
      cases hx with | str s h1 h2 =>
      simp only [lenA, Option.some.injEq] at hk; subst hk
      refine ⟨by simp only [Builtin.lenOf, Sem.run_pure]; rw [size_bytes, h1], byteCells (s.data.toList.take n), ?_, ?_, gives_string s size n⟩
      · rw [← h2]; exact strCells_ok m _ n (by rw [h1]; exact hn)
      · rw [hs1, Nat.mul_one]; simp only [byteCells, List.length_map, List.length_take]; rw [h1]; exact Nat.min_eq_left hn
    · cases h
  · cases h

theorem appendIn_ok (F : Fits w0 m H w) {b o k n sz g s z cap : Nat} {e : TypeId} {cs news : List AV} {news' : List Value} (hm : m[b]? = some (some (g, s, z))) (hz : s + o + cap * sz ≤ z) (hcs : rowGet H b o (k * sz) = some cs) (he : rowType H b = some e)
    (hnews : RelL m news news') (hone : ∀ v ∈ news', v.oneCell' = true) (hnl : news'.length = n * sz) (hroom : k + n ≤ cap) (hex : memB e H.ex = false) :
    Fits w0 (m ++ [some (g, s + o, z)]) ((H.put b .dead).new (rowOf (cs ++ news) e)) (w.setCells g (s + o + k * sz) news') ∧ w.there g (s + o + k * sz) news'.length := by
  have hrow : ∃ N t, H.get b = some (.row N t e) := by
    unfold rowType at he
    split at he
    · rename_i N t e' hr
      simp only [Option.some.injEq] at he; subst he
      exact ⟨N, t, hr⟩
    · cases he
  obtain ⟨N, t, hrow⟩ := hrow
  obtain ⟨cs', hr1, hr2, hr3, hr4⟩ := rowGet_ok F hm hcs
  obtain ⟨hB, c, fz, hc, hzz, hs, hf, hnone, hcell⟩ := F.row b N t e g s z hrow hm
  obtain ⟨c', hc2, hsz2, hget⟩ := setCells_same g e fz news' (s + o + k * sz) c w hc
  have hfit : (k + n) * sz ≤ cap * sz := Nat.mul_le_mul_right _ hroom
  rw [Nat.add_mul] at hfit
  have hlt := F.lt_next hrow
  have Fk := F.kill hlt
  have hothers : ∀ b' o' g' s' z', (H.put b .dead).get b' = some o' → o'.alive = true → m[b']? = some (some (g', s', z')) → g' ≠ g := by
    intro b' o' g' s' z' h1 h2 h3 eg
    subst eg
    by_cases eb : b = b'
    · subst eb; rw [get_put_same] at h1; cases h1; cases h2
    · rw [get_put_other _ eb] at h1
      exact F.sep b b' _ o' g' s z s' z' eb hrow h1 rfl h2 hm h3
  have Fw : Fits w0 m (H.put b .dead) (w.setCells g (s + o + k * sz) news') := Fk.world (below_setCells hB news' _ _ F.below) (fun b' o' g' s' z' h1 h2 h3 => setCells_other g g' (hothers b' o' g' s' z' h1 h2 h3) news' _ _) (fun k' o' hk' => setCells_other g k' (fun e => (F.pin k' o' hk').2 b _ s z hrow rfl (by rw [e]; exact hm)) news' _ _) (by rw [setCells_size]; exact Nat.le_refl _)
  have hlc := hr1.length
  have hln := hnews.length
  constructor
  · refine Fw.new _ (fun b' o' s' z' h1 h2 h3 => hothers b' o' g s' z' h1 h2 h3 rfl) (fun n' t' e' he' => ?_) (fun es he' => by cases he') (fun n' t' e' he' hx => by unfold rowOf at he'; cases he'; rw [show ((H.put b .dead).ex) = H.ex from rfl, hex] at hx; cases hx) (hpin := fun k' o' hk' _ e => (F.pin k' o' hk').2 b _ s z hrow rfl (by rw [← e]; exact hm))
    unfold rowOf at he'
    cases he'
    refine ⟨hB, c', fz, hc2, by omega, by simp only [List.length_append]; omega, hf, fun i hi => ?_, fun i hi => ?_⟩
    · rw [rowOf_get, List.getElem?_eq_none hi]
    · simp only [List.length_append] at hi
      by_cases hik : i < cs.length
      · have hx : cs[i]? = some cs[i] := List.getElem?_eq_getElem hik
        obtain ⟨y, hy, hxy⟩ := hr1.get i _ hx
        refine ⟨cs[i], y, by rw [rowOf_get, List.getElem?_append_left hik]; exact hx, ?_, hxy.mono (Map.le_append m _), hr4 y (List.mem_of_getElem? hy)⟩
        rw [hget _ (by omega), if_neg (by omega)]
        have := hr3 i y hy
        rw [cell_of_row w g _ c e fz hc] at this
        exact this
      · have hj : i - cs.length < news.length := by omega
        have hx : news[i - cs.length]? = some (news[i - cs.length]'hj) := List.getElem?_eq_getElem hj
        obtain ⟨y, hy, hxy⟩ := hnews.get _ _ hx
        refine ⟨_, y, by rw [rowOf_get, List.getElem?_append_right (by omega)]; exact hx, ?_, hxy.mono (Map.le_append m _), hone y (List.mem_of_getElem? hy)⟩
        rw [hget _ (by omega), if_pos (by omega), show s + o + i - (s + o + k * sz) = i - cs.length by omega]
        exact hy
  · intro j hj
    have hltj : s + o + k * sz + j < c.size := by omega
    refine ⟨by rw [cell_of_row w g _ c e fz hc, Array.getElem?_eq_getElem hltj]; rfl, ?_⟩
    have := hf (s + o + k * sz + j) (by omega)
    have hfz : fz = (fz.1, fz.2) := rfl
    simp only [World.frozen?, hc]
    rw [hfz]
    simp only [Bool.and_eq_false_imp, decide_eq_true_eq, decide_eq_false_iff_not]
    intro h1 h2
    exact this ⟨h1, h2⟩

theorem append_ok (F : Fits w0 m H w) {t u : TypeId} {s x : AV} {s' x' : Value} (hs : Rel m s s') (hx : Rel m x x') (ts : Array TypeId) (ty : TypeId) (h0 : ts[0]? = some t) (h1 : ts[1]? = some u) (h : opAppend P H t u s x = some (nx, H')) :
    ValPost w0 m H' nx ((Builtin.append_ ts ty #[s', x']).run P w) := by
  unfold opAppend at h
  split at h
  · rename_i e k n ud he hk hn hu
    have ht := elemOf_ok he
    split at h
    · cases h
    · rename_i hud
      split at h
      · rename_i news hnews
        split at h
        · rename_i hc
          obtain ⟨hbf, hone, hexb⟩ := hc
          have hexn : memB e H.ex = false := hexb
          obtain ⟨i, hi, hb1, hb2, hb3, z, hz, hzs⟩ := bytesFit_ok hbf
          have hci := cells_info hi
          rw [hci] at hnews h
          obtain ⟨hlen, news', hr, hnl0, hgv⟩ := first_ok (P := P) F hx hn (Nat.le_refl n) hnews
          have hones := hr.one hone
          have hud' : ∀ k, ud ≠ .int k := fun k e => hud k e
          -- the row that has just been made
          have grown : ∀ {Hk : AHeap} {olds : List AV} {olds' : List Value} {sCap : Nat} {base : Option Addr}, Fits w0 m Hk w → Hk.ex = H.ex → RelL m olds olds' → (∀ v ∈ olds', v.oneCell' = true) → olds'.length = k * i.size → news'.length = n * i.size → sCap < k + n → s' = .slice base k sCap → Gives P w i.size k (.slice base k sCap) olds' →
              nx = .val (.sl Hk.next 0 (k + n) i.size) → H' = Hk.new (rowOf (olds ++ news) e) → ValPost w0 m H' nx ((Builtin.append_ ts ty #[s', x']).run P w) := by
            intro Hk olds olds' sCap base Fk hke ho hoo hol hnl hcap hs' hgo e1 e2
            subst e1 e2 hs'
            have hfit := growslice_fits (bytes := i.bytes) hcap (by omega)
            have hrun := run_append_grow' (P := P) (w := w) ts ty h0 h1 ht hu hud' hi hz hlen hgo hgv hcap (by omega) hfit
            have hge := grownCap_ge w (k + n) sCap e
            have hal : (olds ++ news).all AV.one = true ∨ True := .inr trivial
            have hro := ho.append hr
            have hones2 : ∀ v ∈ olds' ++ news', v.oneCell' = true := fun v hv => by rcases List.mem_append.1 hv with hv | hv; exact hoo v hv; exact hones v hv
            have F2 := newAt_ok Fk.drew (w' := w.drew.alloc (.cells ((olds' ++ news') ++ (Builtin.zeroCells z.cells (grownCap w (k + n) sCap e - (k + n))).toList).toArray e)) (c := ((olds' ++ news') ++ (Builtin.zeroCells z.cells (grownCap w (k + n) sCap e - (k + n))).toList).toArray) (e := e) (fz := (0, 0))
              (Fk.drew.below.alloc Fk.drew.size _) (fun q hq => Below.heap_alloc _ _ _ hq) (heap_alloc_new w.drew _) (fun i _ => by simp) (by simp) (fun i hi => by rw [List.getElem?_toArray, List.getElem?_append_left hi]) hro hones2 (fun hx => by rw [hke, hexn] at hx; cases hx)
            refine ⟨_, _, _, _, Ext.append m _, F2, rfl, hrun, ?_⟩
            have hmn := map_new Fk (w.drew.heap.size, 0, ((olds' ++ news') ++ (Builtin.zeroCells z.cells (grownCap w (k + n) sCap e - (k + n))).toList).toArray.size)
            have := Rel.sl (o := 0) (n := k + n) (sz := i.size) (cap := grownCap w (k + n) sCap e) hmn hge (by
              simp only [List.size_toArray, List.length_append, Array.length_toList, size_zeroCells, hzs, hol, hnl]
              rw [← Nat.add_mul, ← Nat.add_mul]
              have : k + n + (grownCap w (k + n) sCap e - (k + n)) = grownCap w (k + n) sCap e := by omega
              rw [this]; omega)
            simpa using this
          unfold appendA at h
          split at h
          · cases hs
            simp only [lenA, Option.some.injEq] at hk
            subst hk
            split at h
            · -- nothing onto nil
              simp only [Option.some.injEq, Prod.mk.injEq] at h
              obtain ⟨rfl, rfl⟩ := h
              have hn0 : news' = [] := List.eq_nil_of_length_eq_zero (by omega)
              subst hn0
              refine (PureOK.post F ⟨.nsl, .slice none 0 0, rfl, rfl, ?_, .nsl⟩)
              have hf := hgv w (fun _ => rfl)
              simp [Builtin.append_, h0, h1, run_underlying ht, run_underlying hu, sizeOf, typeInfo, hi, hlen, hf]
            · rename_i n'
              simp only [Option.some.injEq, Prod.mk.injEq] at h
              obtain ⟨rfl, rfl⟩ := h
              exact grown (olds := []) (olds' := []) (sCap := 0) (base := none) F rfl .nil (by simp) (by simp) hnl0 (by omega) rfl (gives_none _ _ _ _) (by simp) (by simp)
          · rename_i b o k' sz
            simp only [lenA, Option.some.injEq] at hk
            subst hk
            split at h
            · simp only [Option.some.injEq, Prod.mk.injEq] at h
              obtain ⟨rfl, rfl⟩ := h
              have hn0 : news' = [] := List.eq_nil_of_length_eq_zero (by omega)
              subst hn0
              cases hs with | @sl _ _ _ _ cap g s0 z0 hm hcap hzz =>
              refine (PureOK.post F ⟨_, _, rfl, rfl, ?_, .sl hm hcap hzz⟩)
              have hrun := run_append_room' (P := P) (w := w) (g := g) (o := s0 + o) (sCap := cap) ts ty h0 h1 ht hu hud' hi hlen hgv (by omega) (fun j hj => by simp at hj) (by simp)
              rw [hrun]
              simp [World.setCells]
            · rename_i n'
              split at h
              · rename_i hsz
                subst hsz
                unfold appendRow at h
                split at h
                · rename_i cs e' hcs he'
                  split at h
                  · rename_i hee
                    have hee := Nat.eq_of_beq_eq_true hee
                    subst hee
                    simp only [Option.some.injEq, Prod.mk.injEq] at h
                    obtain ⟨e1, e2⟩ := h
                    cases hs with | @sl _ _ _ _ cap g s0 z0 hm hcap hzz =>
                    by_cases hroom : k' + (n' + 1) ≤ cap
                    · obtain ⟨F2, hth⟩ := appendIn_ok F hm hzz hcs he' hr hones hnl0 hroom hexn
                      have hrun := run_append_room' (P := P) (w := w) ts ty h0 h1 ht hu hud' hi hlen hgv hroom hth hones
                      subst e1 e2
                      refine ⟨_, _, _, _, Ext.append m _, F2, rfl, hrun, ?_⟩
                      have hF := F.len
                      have hmn : (m ++ [some (g, s0 + o, z0)])[H.next]? = some (some (g, s0 + o, z0)) := map_new F _
                      have := Rel.sl (o := 0) (n := k' + (n' + 1)) (sz := i.size) (cap := cap) hmn hroom (by omega)
                      simpa using this
                    · obtain ⟨cs', r1, r2, r3, r4⟩ := rowGet_ok F hm hcs
                      have hrow : ∃ N t, H.get b = some (.row N t e') := by
                        unfold rowType at he'
                        split at he'
                        · rename_i N t e2 hr2
                          simp only [Option.some.injEq] at he'; subst he'
                          exact ⟨N, t, hr2⟩
                        · cases he'
                      obtain ⟨N, tt, hrow⟩ := hrow
                      exact grown (Hk := H.put b .dead) (F.kill (F.lt_next hrow)) rfl r1 r4 r2 hnl0 (by omega) rfl (gives_slice r3 r2) e1.symm e2.symm
                  · cases h
                · cases h
              · cases h
          · cases h
        · cases h
      · cases h
  · cases h
end

end
end Go.Proofs.Ytpnccmlajhhpdaa.Abs
