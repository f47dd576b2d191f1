/-
  The leaves of keys that are shared out.
-/
import Derived.Test.YthnggpjgajkaeaaPb
namespace Go.Proofs.Ythnggpjgajkaeaa
open Go Go.RowKit
attribute [local go_sem ↓] Go.wp_at_zero Go.wp_at_succ

/-- A list cut as it is shared out. -/
def cuts {α : Type} : List Nat → List α → List (List α)
  | [], _ => []
  | d :: ds, xs => xs.take d :: cuts ds (xs.drop d)
theorem cuts_len {α : Type} : ∀ (ds : List Nat) (xs : List α), (cuts ds xs).length = ds.length
  | [], _ => rfl
  | d :: ds, xs => by rw [cuts, List.length_cons, cuts_len ds, List.length_cons]
theorem cuts_at {α : Type} : ∀ (ds : List Nat) (xs : List α) (i d : Nat), ds[i]? = some d → (cuts ds xs)[i]? = some ((xs.drop (ds.take i).sum).take d)
  | [], _, i, d, h => by simp at h
  | e :: ds, xs, 0, d, h => by
    have h : e = d := by simpa using h
    subst h; rfl
  | e :: ds, xs, i + 1, d, h => by
    have h : ds[i]? = some d := by simpa using h
    rw [cuts, List.getElem?_cons_succ, cuts_at ds (xs.drop e) i d h, List.take_succ_cons, List.sum_cons, List.drop_drop]
theorem segV_at (b : Nat) : ∀ (ds : List Nat) (off c i d : Nat), ds[i]? = some d → (segV b off c ds)[i]? = some (.slice (some ⟨b, off + (ds.take i).sum, none⟩) d (c - (ds.take i).sum))
  | [], off, c, i, d, h => by simp at h
  | e :: ds, off, c, 0, d, h => by
    have h : e = d := by simpa using h
    subst h; rfl
  | e :: ds, off, c, i + 1, d, h => by
    have h : ds[i]? = some d := by simpa using h
    rw [segV, List.getElem?_cons_succ, segV_at b ds _ _ i d h, List.take_succ_cons, List.sum_cons, Nat.add_assoc, Nat.sub_sub]
theorem parts_sum {most : Nat} (hm : 3 ≤ most) : ∀ (f n : Nat), n ≤ f → (parts most f n).sum = n
  | 0, n, h => by obtain rfl : n = 0 := by omega
                  rfl
  | f + 1, 0, _ => rfl
  | f + 1, n + 1, h => by
    obtain ⟨p1, p2, p3⟩ := part_pos (left := n + 1) hm (by omega)
    rw [parts, List.sum_cons, parts_sum hm f _ (by omega)]; omega
theorem parts_pos {most : Nat} (hm : 3 ≤ most) : ∀ (f n d : Nat), d ∈ parts most f n → 0 < d ∧ d ≤ most
  | 0, n, d, h => by simp [parts] at h
  | f + 1, 0, d, h => by simp [parts] at h
  | f + 1, n + 1, d, h => by
    obtain ⟨p1, p2, p3⟩ := part_pos (left := n + 1) hm (by omega)
    rw [parts, List.mem_cons] at h
    rcases h with rfl | h
    · exact ⟨p1, p3⟩
    · exact parts_pos hm f _ d h
theorem sum_at : ∀ (ds : List Nat) (i d : Nat), ds[i]? = some d → (ds.take i).sum + d ≤ ds.sum
  | [], i, d, h => by simp at h
  | e :: ds, 0, d, h => by
    have h : e = d := by simpa using h
    subst h; simp
  | e :: ds, i + 1, d, h => by
    have h : ds[i]? = some d := by simpa using h
    have := sum_at ds i d h
    rw [List.take_succ_cons, List.sum_cons, List.sum_cons]; omega
/-- Branches one after another. -/
def FlL (w : World) (z : Nat) (ps : List Nat) (L : List (List ByteArray × List Nat)) : Prop := ps.length = L.length ∧ ∀ (i p : Nat) (v : List ByteArray × List Nat), ps[i]? = some p → L[i]? = some v → FlB w z p v.1 v.2
theorem FlL.below {w w' : World} {z : Nat} {ps : List Nat} {L : List (List ByteArray × List Nat)} (h : FlL w z ps L) (hb : Below w.heap.size w w') : FlL w' z ps L := ⟨h.1, fun i p v h1 h2 => (h.2 i p v h1 h2).below hb⟩
theorem FlL.grown {w w' : World} {z base n m c : Nat} {a : Option Addr} {xs : List Value} {ps : List Nat} {L : List (List ByteArray × List Nat)} (h : FlL w z ps L) (ho : w.ownsRow base 57 1 (.slice a m c) n xs) (hz : z ≤ base) (hg : w.grownBy w' (ob a)) : FlL w' z ps L := ⟨h.1, fun i p v h1 h2 => (h.2 i p v h1 h2).grown ho hz hg⟩
theorem FlL.add {w : World} {z p : Nat} {ps : List Nat} {L : List (List ByteArray × List Nat)} {ks : List ByteArray} {us : List Nat} (h : FlL w z ps L) (hp : FlB w z p ks us) : FlL w z (ps ++ [p]) (L ++ [(ks, us)]) := by
  refine ⟨by rw [List.length_append, List.length_append, h.1]; rfl, fun i q v h1 h2 => ?_⟩
  rcases Nat.lt_trichotomy i ps.length with hi | hi | hi
  · rw [List.getElem?_append_left hi] at h1
    rw [List.getElem?_append_left (h.1 ▸ hi)] at h2
    exact h.2 i q v h1 h2
  · subst hi
    rw [List.getElem?_append_right (Nat.le_refl _), Nat.sub_self] at h1
    rw [h.1, List.getElem?_append_right (Nat.le_refl _), Nat.sub_self] at h2
    cases h1; cases h2
    exact hp
  · rw [List.getElem?_eq_none (by rw [List.length_append]; simp; omega)] at h1; cases h1
theorem FlL.lt {w : World} {z : Nat} {ps : List Nat} {L : List (List ByteArray × List Nat)} (h : FlL w z ps L) : ∀ p ∈ ps, p < w.heap.size := by
  intro p hp
  obtain ⟨i, hi, e⟩ := List.mem_iff_getElem.1 hp
  have h2 : i < L.length := h.1 ▸ hi
  exact (h.2 i p L[i] (by rw [List.getElem?_eq_getElem hi, e]) (List.getElem?_eq_getElem h2)).lt
def leafL (ds : List Nat) (keys : List ByteArray) : List (List ByteArray × List Nat) := (cuts ds keys).map fun ks => (ks, [])
theorem leafL_len (ds : List Nat) (keys : List ByteArray) : (leafL ds keys).length = ds.length := by unfold leafL; rw [List.length_map, cuts_len]
theorem leafL_at {ds : List Nat} {keys : List ByteArray} {i d : Nat} (h : ds[i]? = some d) : (leafL ds keys)[i]? = some ((keys.drop (ds.take i).sum).take d, []) := by unfold leafL; rw [List.getElem?_map, cuts_at ds keys i d h]; rfl
/-- A part of a slice reads as a part. -/
theorem RdS.part {w : World} {A : Nat → Prop} {b off n k d : Nat} {xs : List Value} (h : RdS w A (some ⟨b, off, none⟩) n xs) (hk : k + d ≤ n) (hd : 0 < d) : RdS w A (some ⟨b, off + k, none⟩) d ((xs.drop k).take d) := by
  obtain ⟨b', off', e, hl, hA, hc⟩ := h.2 (by omega)
  cases e
  refine ⟨by rw [List.length_take, List.length_drop, h.1]; omega, fun _ => ⟨b, off + k, rfl, hl, hA, fun i hi => ?_⟩⟩
  rw [Nat.add_assoc, hc (k + i) (by omega), List.getElem?_take_of_lt hi, List.getElem?_drop]
theorem own_low {w : World} {base base' e size n : Nat} {v : Value} {xs : List Value} (h : w.ownsRow base e size v n xs) (hb : base' ≤ base) : w.ownsRow base' e size v n xs := by
  refine ⟨h.1, h.2.imp id ?_⟩
  rintro ⟨g, cp, cur, h1, h2, h3⟩
  exact ⟨g, cp, cur, h1, Nat.le_trans hb h2, h3⟩
set_option maxRecDepth 100000 in
set_option maxHeartbeats 8000000 in
theorem c_leaves (b off n c : Nat) (keys : List ByteArray) (w : World) (ho : 0 < n) (hn : n ≤ 61) (hnc : n ≤ c) (hc : c ≤ 9223372036854775807) (hr : RdS w (NP w) (some ⟨b, off, none⟩) n (keys.map Value.string)) :
    Calls Try.prog 63 #[.slice (some ⟨b, off, none⟩) n c] w fun e w' => (∃ a' c' ps, e = .returned (.slice a' (parts 4 n n).length c') ∧ w'.ownsRow w.heap.size 57 1 (.slice a' (parts 4 n n).length c') (parts 4 n n).length (ps.map ptr) ∧ ps.length = (parts 4 n n).length ∧ (∀ p ∈ ps, w.heap.size ≤ p) ∧ ps.Nodup ∧ FlL w' w.heap.size ps (leafL (parts 4 n n) keys)) ∧ Below w.heap.size w w' := by
  obtain ⟨i0, hi, hz0, hz1, hz2⟩ := info_parts infoPtr
  have CS := c_shareS b off n c 4 w (by omega) (by omega) hnc hc ho (by omega)
  have hPl := parts_len 4 n n
  have hPs := parts_sum (most := 4) (by omega) n n (Nat.le_refl _)
  have hPp := parts_pos (most := 4) (by omega) n n
  obtain ⟨P, hP⟩ : ∃ P, parts 4 n n = P := ⟨_, rfl⟩
  rw [hP] at CS hPl hPs hPp ⊢
  obtain ⟨m, hm⟩ : ∃ m, P.length = m := ⟨_, rfl⟩
  rw [hm] at CS hPl ⊢
  have HM : Hid (P.length = m) := hm
  have HPS : Hid (P.sum = n) := hPs
  have HPP : Hid (∀ d ∈ P, 0 < d ∧ d ≤ 4) := hPp
  have HR : Hid (RdS w (NP w) (some ⟨b, off, none⟩) n (keys.map Value.string)) := hr
  have hn0 : ((n : Int) == 0) = false := by simp; omega
  clear hP hm hPs hPp hr
  go_enter Try.func63, Try.ntmps63
  go_wp2_with fail
  refine CS.mono ?_
  rintro e w1 ⟨⟨a9, c9, rfl, o9⟩, b9⟩
  have R9 : Hid (RdV w1 a9 m (segV b off c P)) := RdV.own o9
  have N9 : Hid (Below w.heap.size w w1) := b9
  clear CS o9 b9
  go_wp2
  go_loopw [3, 15] (fun o i wr => ∃ (k : Nat) (a1 : Option Addr) (c1 : Nat) (ps : List Nat), k ≤ m ∧ i = .int .i64 k ∧ o = .slice a1 k c1 ∧ Hid (ps.length = k) ∧ Hid (∀ p ∈ ps, w1.heap.size ≤ p) ∧ Hid ps.Nodup ∧ Hid (wr.ownsRow w1.heap.size 57 1 (.slice a1 k c1) k (ps.map ptr)) ∧ Hid (FlL wr w.heap.size ps ((leafL P keys).take k)) ∧ Hid (Below w1.heap.size w1 wr)) (fun _ i _ => m - (intOf i).toNat)
  case atStart => exact ⟨0, none, 0, [], by omega, rfl, rfl, rfl, (fun p h => by simp at h), List.nodup_nil, World.ownsRow_nil _ _ _ _, ⟨rfl, (fun i p v h => by simp at h)⟩, Below.refl _ _⟩
  case round =>
    obtain ⟨k, a1, c1, ps, hk, rfl, rfl, HL, HG, HD, OR, FR, BR⟩ := hrel
    by_cases hlt : k < m
    · obtain ⟨d, hd⟩ : ∃ d, P[k]? = some d := ⟨_, List.getElem?_eq_getElem (by rw [HM.out]; exact hlt)⟩
      obtain ⟨b9, o9, rfl, hl9, hc9⟩ := R9.out.2 (by omega)
      obtain ⟨K, hK⟩ : ∃ K, (P.take k).sum = K := ⟨_, rfl⟩
      have hdb := HPP.out d (List.mem_of_getElem? hd)
      have hsum : K + d ≤ n := by rw [← hK, ← HPS.out]; exact sum_at P k d hd
      have e0 : wr.cell? ⟨b9, o9 + k, none⟩ = some (.slice (some ⟨b, off + K, none⟩) d (c - K)) := by rw [BR.out.cell (p := ⟨b9, o9 + k, none⟩) hl9, hc9 k hlt, segV_at b P off c k d hd, hK]
      obtain ⟨cK, hcK⟩ : ∃ x, c - K = x := ⟨_, rfl⟩
      rw [hcK] at e0
      obtain ⟨V1, hV1⟩ : ∃ V1, wr.alloc (.cells #[.slice (some ⟨b, off + K, none⟩) d cK, .slice none 0 0, .int .i64 0] 88) = V1 := ⟨_, rfl⟩
      have s1 : V1.heap.size = wr.heap.size + 1 := by rw [← hV1]; simp
      have b1 : Below wr.heap.size wr V1 := by rw [← hV1]; exact (Below.refl _ _).alloc (Nat.le_refl _) _
      have X1 : Box V1 wr.heap.size 88 #[.slice (some ⟨b, off + K, none⟩) d cK, .slice none 0 0, .int .i64 0] := by rw [← hV1]; exact Box.new _ _ _
      obtain ⟨V2, hV2⟩ : ∃ V2, V1.alloc (.cells #[.pointer (some ⟨wr.heap.size, 0, none⟩)] 57) = V2 := ⟨_, rfl⟩
      have b2 : Below V1.heap.size V1 V2 := by rw [← hV2]; exact (Below.refl _ _).alloc (Nat.le_refl _) _
      have b12 : Below wr.heap.size wr V2 := b1.trans (b2.mono b1.size)
      have B2 : Hid (Below w1.heap.size w1 V2) := BR.out.trans (b12.mono BR.out.size)
      have bw : Below w.heap.size w V2 := N9.out.trans (B2.out.mono N9.out.size)
      have hkl : keys.length = n := by have := HR.out.1; rwa [List.length_map] at this
      have hdl : ((keys.drop K).take d).length = d := by rw [List.length_take, List.length_drop, hkl]; omega
      have XB : FlB V2 w.heap.size wr.heap.size ((keys.drop K).take d) [] := by
        refine ⟨some ⟨b, off + K, none⟩, cK, none, 0, 0, ?_, ?_, (fun h => by cases h), ⟨rfl, fun h => absurd h (by simp)⟩⟩
        · rw [hdl]; exact X1.belowS b2
        · rw [hdl, List.map_take, List.map_drop]
          exact (HR.out.part hsum hdb.1).keep bw.size fun g hg q => ⟨bw.block g hg, NP.same q (bw.block g hg), .inl hg⟩
      have F2 : Hid (FlL V2 w.heap.size (ps ++ [wr.heap.size]) ((leafL P keys).take (k + 1))) := by
        unfold Hid
        rw [List.take_add_one, leafL_at hd, hK]
        exact (FR.out.below b12).add XB
      have O2 : Hid (V2.ownsRow w1.heap.size 57 1 (.slice a1 k c1) k (ps.map ptr)) := own_below OR.out b12
      have C2 : Hid (V2.cell? ⟨wr.heap.size + 1, 0, none⟩ = some (.pointer (some ⟨wr.heap.size, 0, none⟩))) := by unfold Hid; rw [← hV2, ← s1]; exact (Box.new _ _ _).cell 0
      have D2 : Hid (ps ++ [wr.heap.size]).Nodup := by
        unfold Hid
        rw [List.nodup_append]
        refine ⟨HD.out, by simp, fun p hp q hq e => ?_⟩
        have := FR.out.lt p hp
        simp at hq
        omega
      have G2 : Hid (∀ p ∈ ps ++ [wr.heap.size], w1.heap.size ≤ p) := by
        intro p hp
        rw [List.mem_append] at hp
        rcases hp with hp | hp
        · exact HG.out p hp
        · simp at hp; subst hp; exact BR.out.size
      have s2 : w1.heap.size ≤ V2.heap.size := B2.out.size
      have hWz : Hid (w.heap.size ≤ w1.heap.size) := N9.out.size
      clear b1 b2 b12 bw X1 XB FR OR BR HG HD hdl hkl hd hc9 hK hdb hsum hcK
      go_wp2_with (at_builtin; refine app_any _ rfl (.tmp 19) (.tmp 23) 84 rfl w1.heap.size 57 i0 (.pointer none) 1 8 Try.underlying84 hi hz0 hz1 hz2 rfl (by omega) (.slice a1 k c1) k (ps.map ptr) rfl O2.out (some ⟨wr.heap.size + 1, 0, none⟩) 1 1 [.pointer (some ⟨wr.heap.size, 0, none⟩)] rfl (fun h => by cases h) rfl (fun ad e => by cases e; intro j u hu; cases j with | zero => (cases hu; exact C2.out) | succ j => simp at hu) (by intro u hu; simp at hu; subst hu; rfl) (by unfold maxLen; omega) (by omega) s2 ?_; intro a5 c5 w5 ho5 hg5 hx5)
      have O5 : Hid (w5.ownsRow w1.heap.size 57 1 (.slice a5 (k + 1) c5) (k + 1) ((ps ++ [wr.heap.size]).map ptr)) := by unfold Hid; rw [List.map_append]; exact ho5
      have B5 : Hid (Below w1.heap.size w1 w5) := B2.out.grown hg5 B2.out.size (fun g hg => (own_blk O2.out g (by rw [ob_slice] at hg; exact hg)).1)
      have F5 : Hid (FlL w5 w.heap.size (ps ++ [wr.heap.size]) ((leafL P keys).take (k + 1))) := F2.out.grown O2.out hWz.out (by rw [ob_slice] at hg5; exact hg5)
      clear ho5 hg5 hx5 O2 B2 F2 C2 hV1 hV2
      go_roundw
      case rel => exact ⟨k + 1, a5, c5, ps ++ [wr.heap.size], by omega, by go_num, rfl, by unfold Hid; rw [List.length_append, HL.out]; rfl, G2.out, D2.out, O5.out, F5.out, B5.out⟩
      case measure => simp [intOf]; omega
    · obtain rfl : k = m := by omega
      go_wp2
      go_ret
      refine ⟨⟨a1, c1, ps, rfl, ?_, HL.out, fun p hp => Nat.le_trans N9.out.size (HG.out p hp), HD.out, ?_⟩, N9.out.trans (BR.out.mono N9.out.size)⟩
      · exact own_low OR.out N9.out.size
      · have := FR.out; rw [List.take_of_length_le (by rw [leafL_len, HM.out]; exact Nat.le_refl _)] at this; exact this

end Go.Proofs.Ythnggpjgajkaeaa
