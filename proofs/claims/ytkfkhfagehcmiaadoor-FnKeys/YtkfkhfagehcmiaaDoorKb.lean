/-
  The walks of KeyBytes.
-/
import Derived.Test.YtkfkhfagehcmiaaDoorVs
import Derived.Lib.AppendStr
import Derived.Deep.AppendLies
import Derived.Laws.BitsAllLaws
namespace Go.Proofs.YtkfkhfagehcmiaaDoor
open Go Go.RowKit

def strK (s : ByteArray) : List Int := s.data.toList.map fun b => (b.toNat : Int)
theorem strK_cells (s : ByteArray) : (strK s).map (Value.int .u8) = Lib.strCells s := by
  simp [strK, Lib.strCells, List.map_map, Function.comp_def]
theorem strK_len (s : ByteArray) : (strK s).length = s.size := by simp [strK]
/-- The four bytes of a number. -/
def numZ (u : Int) : List Int := [u / 16777216, u / 65536 % 256, u / 256 % 256, u % 256]
/-- The bytes of a value. -/
def keyZ (v : VV) : List Int := if v.1 = 0 then [1] else if v.1 = 1 then 2 :: numZ (v.2.1 + 1000000000) else 3 :: (strK v.2.2 ++ [0])
def okV (v : VV) : Bool := valB v.1 v.2.1 v.2.2
theorem okV_kind {v : VV} (h : okV v = true) : v.1 = 0 ∨ (v.1 = 1 ∧ -1000000000 ≤ v.2.1 ∧ v.2.1 ≤ 1000000000) ∨ (v.1 = 2 ∧ v.2.2.size ≤ 10) := by
  unfold okV valB at h
  by_cases h0 : v.1 = 0
  · exact .inl h0
  · rw [if_neg h0] at h
    by_cases h1 : v.1 = 1
    · rw [if_pos h1] at h
      simp only [Bool.and_eq_true] at h
      have := h.1
      unfold inB at this
      simp only [decide_eq_true_eq] at this
      exact .inr (.inl ⟨h1, this.1, this.2⟩)
    · rw [if_neg h1] at h
      by_cases h2 : v.1 = 2
      · rw [if_pos h2] at h
        simp only [Bool.and_eq_true] at h
        have := h.2
        unfold wordB at this
        simp only [Bool.and_eq_true, decide_eq_true_eq] at this
        exact .inr (.inr ⟨h2, this.1⟩)
      · rw [if_neg h2] at h; cases h
theorem keyZ_len {v : VV} (h : okV v = true) : (keyZ v).length ≤ 12 := by
  unfold keyZ
  rcases okV_kind h with h0 | ⟨h1, _⟩ | ⟨h2, h3⟩
  · rw [if_pos h0]; simp
  · rw [if_neg (by omega), if_pos h1]; simp [numZ]
  · rw [if_neg (by omega), if_neg (by omega)]; simp [strK_len]; omega
theorem lit1 (w : World) (o : Obj) (base : Nat) (x : Int) (hb : base ≤ w.heap.size + 1) : ((w.alloc o).alloc (.cells #[.int .u8 x] 5)).ownsRow base 5 1 (.slice (some ⟨w.heap.size + 1, 0, none⟩) 1 1) 1 [.int .u8 x] := by
  have := World.ownsRow_lit (base := base) (e := 5) (size := 1) (w.alloc o) #[.int .u8 x] 1 (by simpa using hb) (by unfold maxLen; omega) rfl
  simpa using this

set_option maxRecDepth 100000 in
set_option maxHeartbeats 2000000 in
theorem c61 (u : Int) (w : World) (h0 : 0 ≤ u) (h1 : u ≤ 2000000000) :
    Calls Tryd.prog 44 #[.int .i64 u, .int .i64 4] w fun e w' => ∃ g cap, e = .returned (.slice (some ⟨g, 0, none⟩) 4 cap) ∧ w'.ownsRow w.heap.size 5 1 (.slice (some ⟨g, 0, none⟩) 4 cap) 4 ((numZ u).map (Value.int .u8)) ∧ Below w.heap.size w w' := by
  obtain ⟨i0, hi, hz0, hz1, hz2⟩ := info_parts infoB
  have hown0 : (w.alloc (.cells #[] 5)).ownsRow w.heap.size 5 1 (.slice (some ⟨w.heap.size, 0, none⟩) 0 0) 0 [] := World.ownsRow_lit w #[] 0 (Nat.le_refl _) (Nat.zero_le _) rfl
  go_enter Tryd.func44, Tryd.ntmps44
  go_wp2
  go_loopw [5, 6] (fun v i wr => ∃ j : Nat, j ≤ 4 ∧ i = .int .i64 (3 - (j : Int)) ∧ wr.ownsRow w.heap.size 5 1 v j (((numZ u).take j).map (Value.int .u8)) ∧ (0 < j → ∃ g cap, v = .slice (some ⟨g, 0, none⟩) j cap) ∧ Below w.heap.size w wr) (fun _ i _ => (intOf i + 1).toNat)
  case atStart => exact ⟨0, by omega, rfl, hown0, fun h => absurd h (by omega), (Below.refl _ _).alloc (Nat.le_refl _) _⟩
  case round =>
    obtain ⟨j, hj, rfl, hown, hform, hb⟩ := hrel
    have hbs : w.heap.size ≤ wr.heap.size := hb.size
    clear hown0
    by_cases hlt : j < 4
    · obtain ⟨z, hz⟩ : ∃ z, (numZ u).take (j + 1) = (numZ u).take j ++ [z] ∧ z = (numZ u).getD j 0 := by
        refine ⟨_, ?_, rfl⟩
        rw [List.take_succ_eq_append_getElem (by simp [numZ]; omega), List.getD_eq_getElem?_getD, List.getElem?_eq_getElem (by simp [numZ]; omega)]
        rfl
      have HZ : Hid ((numZ u).take (j + 1) = (numZ u).take j ++ [z]) := hz.1
      have hzv := hz.2
      clear hz
      obtain ⟨av, cv, hv⟩ : ∃ a cap, (_ : Value) = .slice a j cap := by
        rcases own_form hown with ⟨h, rfl⟩ | ⟨g, cap, h, _, _⟩
        · exact ⟨none, 0, h⟩
        · exact ⟨_, cap, h⟩
      subst hv
      clear hform
      rcases j with _ | _ | _ | _ | j
      all_goals try omega
      all_goals
        simp only [numZ, List.getD_cons_zero, List.getD_cons_succ] at hzv
        subst hzv
        go_wp2_with (at_builtin; refine wpList_append_lies _ rfl (.tmp 14) (.tmp 21) 30 rfl w.heap.size 5 i0 (.int .u8 0) 1 1 Tryd.underlying30 hi hz0 hz1 hz2 rfl (by omega) _ _ _ rfl (hown.alloc _) ⟨wr.heap.size, 0, none⟩ 1 1 [_] rfl rfl (cell_one_new wr _ _) (by intro u hu; simp at hu; subst hu; rfl) (by omega) (by unfold maxLen; omega) (by omega) (by simp; omega) (wr.heap.size + 1) (by simp) ?_; intro g cp w1 hown1 hgr1 hat1 hlt1)
      all_goals
        have hb1 : Below w.heap.size w w1 := (hb.alloc hbs _).grown hgr1 (by simp; omega) (fun j hj => (hown.lt j hj).1)
        have hown2 := hown1
        rw [← List.map_singleton (f := Value.int IntKind.u8), ← List.map_append, ← HZ.out] at hown2
        clear hown1 hgr1 hat1 hlt1 hown
        go_roundw
        case rel => first | exact ⟨1, by omega, rfl, hown2, fun _ => ⟨g, cp, rfl⟩, hb1⟩ | exact ⟨2, by omega, rfl, hown2, fun _ => ⟨g, cp, rfl⟩, hb1⟩ | exact ⟨3, by omega, rfl, hown2, fun _ => ⟨g, cp, rfl⟩, hb1⟩ | exact ⟨4, by omega, rfl, hown2, fun _ => ⟨g, cp, rfl⟩, hb1⟩
        case measure => simp [intOf]
    · have e : j = 4 := by omega
      subst e
      obtain ⟨g, cap, rfl⟩ := hform (by omega)
      go_wp2
      go_ret
      exact ⟨g, cap, rfl, hown, hb⟩

theorem own_slice2 {w : World} {base e size n : Nat} {v : Value} {xs : List Value} (h : w.ownsRow base e size v n xs) : ∃ a cap, v = .slice a n cap := by
  rcases own_form h with ⟨rfl, rfl⟩ | ⟨g, cap, rfl, _, _⟩
  · exact ⟨none, 0, rfl⟩
  · exact ⟨_, cap, rfl⟩
theorem news_own {w : World} {base g n cap : Nat} {xs : List Value} (h : w.ownsRow base 5 1 (.slice (some ⟨g, 0, none⟩) n cap) n xs) : ∀ j u, xs[j]? = some u → w.cell? ((⟨g, 0, none⟩ : Addr).add j) = some u := h.cells rfl

set_option maxRecDepth 100000 in
set_option maxHeartbeats 2000000 in
theorem c54 (v : VV) (w : World) (hv : okV v = true) :
    Calls Tryd.prog 34 #[.agg #[.int .i64 v.1, .int .i64 v.2.1, .string v.2.2]] w fun e w' => ∃ g cap, e = .returned (.slice (some ⟨g, 0, none⟩) (keyZ v).length cap) ∧ w'.ownsRow w.heap.size 5 1 (.slice (some ⟨g, 0, none⟩) (keyZ v).length cap) (keyZ v).length ((keyZ v).map (Value.int .u8)) ∧ Below w.heap.size w w' := by
  obtain ⟨k, n, t⟩ := v
  obtain ⟨i0, hi, hz0, hz1, hz2⟩ := info_parts infoB
  rcases okV_kind hv with h0 | ⟨h1, hn1, hn2⟩ | ⟨h2, ht⟩
  · simp only at h0
    subst h0
    have HW : Hid (∀ o, ((w.alloc o).alloc (.cells #[.int .u8 1] 5)).ownsRow w.heap.size 5 1 (.slice (some ⟨w.heap.size + 1, 0, none⟩) 1 1) 1 [.int .u8 1]) := fun o => lit1 w o w.heap.size 1 (by omega)
    have hb0 : ∀ o o', Below w.heap.size w ((w.alloc o).alloc o') := fun o o' => ((Below.refl _ _).alloc (Nat.le_refl _) _).alloc (by simp) _
    go_enter Tryd.func34, Tryd.ntmps34
    go_wp2
    go_ret
    exact ⟨w.heap.size + 1, 1, rfl, HW.out _, hb0 _ _⟩
  · simp only at h1 hn1 hn2
    subst h1
    have ek : keyZ (1, n, t) = 2 :: numZ (n + 1000000000) := rfl
    rw [ek]
    clear ek
    have hown0 := lit1 w (.cells #[.int .i64 1, .int .i64 n, .string t] 27) w.heap.size 2 (by omega)
    have HO0 : Hid (((w.alloc (.cells #[.int .i64 1, .int .i64 n, .string t] 27)).alloc (.cells #[.int .u8 2] 5)).ownsRow w.heap.size 5 1 (.slice (some ⟨w.heap.size + 1, 0, none⟩) 1 1) 1 [.int .u8 2]) := hown0
    clear hown0
    go_enter Tryd.func34, Tryd.ntmps34
    go_wp2_with fail
    refine (c61 _ _ (by omega) (by omega)).mono ?_
    rintro e w1 ⟨g1, c1, rfl, ho1, hb1⟩
    have hown1 := own_below HO0.out hb1
    have hq1 : Below w.heap.size w w1 := ((((Below.refl w.heap.size w).alloc (Nat.le_refl _) _).alloc (by simp) _).trans (hb1.mono (by simp; omega)))
    have HN : Hid (∀ j u, ((numZ (n + 1000000000)).map (Value.int .u8))[j]? = some u → w1.cell? ((⟨g1, 0, none⟩ : Addr).add j) = some u) := news_own ho1
    have hs1 : w.heap.size ≤ w1.heap.size := hq1.size
    clear ho1 hb1
    go_wp2_with (at_builtin; refine wpList_append_lies _ rfl (.tmp 10) (.tmp 14) 30 rfl w.heap.size 5 i0 (.int .u8 0) 1 1 Tryd.underlying30 hi hz0 hz1 hz2 rfl (by omega) (.slice (some ⟨w.heap.size + 1, 0, none⟩) 1 1) 1 [.int .u8 2] rfl hown1 ⟨g1, 0, none⟩ 4 c1 ((numZ (n + 1000000000)).map (Value.int .u8)) rfl rfl HN.out (ints_oneCell _ _) (by omega) (by unfold maxLen; omega) (by omega) hs1 w1.heap.size rfl ?_; intro g cp w2 hown2 hgr2 hat2 hlt2)
    go_ret
    have hb2 : Below w.heap.size w w2 := hq1.grown hgr2 hs1 (fun j hj => (hown1.lt j hj).1)
    exact ⟨g, cp, rfl, hown2, hb2⟩
  · simp only at h2 ht
    subst h2
    have ek : keyZ (2, n, t) = 3 :: (strK t ++ [0]) := rfl
    rw [ek]
    clear ek
    have hownA := lit1 w (.cells #[.int .i64 2, .int .i64 n, .string t] 27) w.heap.size 3 (by omega)
    have E1 : Hid ((3 :: (strK t ++ [0])).length = 1 + t.size + 1) := by unfold Hid; simp [strK_len]; omega
    have E2 : Hid ((3 :: (strK t ++ [0])).map (Value.int .u8) = [Value.int .u8 3] ++ Lib.strCells t ++ [Value.int .u8 0]) := by unfold Hid; simp [strK_cells]
    rw [E1.out, E2.out]
    go_enter Tryd.func34, Tryd.ntmps34
    go_wp2_with (first | (at_builtin; refine Lib.wpList_append_own_string _ rfl (.tmp 16) (.tmp 18) 30 9 rfl w.heap.size 5 i0 Tryd.underlying30 Tryd.underlying9 hi hz0 hz1 hz2 (.slice (some ⟨w.heap.size + 1, 0, none⟩) 1 1) 1 [.int .u8 3] rfl hownA t rfl (by unfold maxLen; omega) (by omega) (by simp; omega) ?_; intro v2 w2 hown2 hgr2 _; (obtain ⟨a2, c2, hv2⟩ := own_slice2 hown2; subst hv2); (have hb2 : Below w.heap.size w w2 := ((((Below.refl w.heap.size w).alloc (Nat.le_refl _) _).alloc (by simp) _)).grown hgr2 (by simp; omega) (fun j hj => (hownA.lt j hj).1)); (have hs2 : w.heap.size ≤ w2.heap.size := hb2.size)) | (at_builtin; refine wpList_append_lies _ rfl (.tmp 19) (.tmp 20) 30 rfl w.heap.size 5 i0 (.int .u8 0) 1 1 Tryd.underlying30 hi hz0 hz1 hz2 rfl (by omega) (.slice a2 (1 + t.size) c2) (1 + t.size) ([Value.int .u8 3] ++ Lib.strCells t) rfl (hown2.alloc _) ⟨w2.heap.size, 0, none⟩ 1 1 [.int .u8 0] rfl rfl (cell_one_new w2 _ _) (by intro u hu; simp at hu; subst hu; rfl) (by omega) (by unfold maxLen; omega) (by omega) (by simp; omega) (w2.heap.size + 1) (by simp) ?_; intro g cp w3 hown3 hgr3 hat3 hlt3))
    go_ret
    have hb3 : Below w.heap.size w w3 := (hb2.alloc hs2 _).grown hgr3 (by simp; omega) (fun j hj => (hown2.lt j hj).1)
    exact ⟨g, cp, rfl, hown3, hb3⟩

/-! ### Lists -/
def allV (vs : List VV) (k : Nat) : Bool := (vs.take k).all okV
theorem allV_step {vs : List VV} {k : Nat} (h : k < vs.length) : allV vs (k + 1) = (allV vs k && okV (vs.getD k dV)) := by
  unfold allV
  rw [List.take_succ_eq_append_getElem h, List.all_append, List.getD_eq_getElem?_getD, List.getElem?_eq_getElem h]
  simp
theorem allV_mono {vs : List VV} {n k : Nat} (hk : k ≤ n) (hf : allV vs n = true) : allV vs k = true := by
  unfold allV at *
  rw [List.all_eq_true] at *
  exact fun x hx => hf x (List.take_subset_take_left vs hk hx)
theorem allV_no {vs : List VV} {n k : Nat} (hk : k ≤ n) (hf : allV vs k = false) : allV vs n = false := by
  cases h : allV vs n
  · rfl
  · rw [allV_mono hk h] at hf; cases hf
def kbZ (vs : List VV) (k : Nat) : List Int := (vs.take k).flatMap keyZ
theorem kbZ_step {vs : List VV} {k : Nat} (h : k < vs.length) : kbZ vs (k + 1) = kbZ vs k ++ keyZ (vs.getD k dV) := by
  unfold kbZ
  rw [List.take_succ_eq_append_getElem h, List.flatMap_append, List.getD_eq_getElem?_getD, List.getElem?_eq_getElem h]
  simp
theorem kbZ_len {vs : List VV} : ∀ k, k ≤ vs.length → allV vs k = true → (kbZ vs k).length ≤ k * 12
  | 0, _, _ => by simp [kbZ]
  | k + 1, h, ho => by
    rw [allV_step (by omega)] at ho
    simp only [Bool.and_eq_true] at ho
    have := kbZ_len k (by omega) ho.1
    have := keyZ_len ho.2
    rw [kbZ_step (by omega), List.length_append]
    omega
def errK (vs : List VV) (n : Nat) : Int := if 4096 < n then 2 else if allV vs n then 0 else 1
def resK (vs : List VV) (n : Nat) : List Int := if errK vs n = 0 then kbZ vs n else []
theorem errK2 {vs : List VV} {n : Nat} (h : 4096 < n) : errK vs n = 2 ∧ resK vs n = [] := by
  have e : errK vs n = 2 := by unfold errK; rw [if_pos h]
  exact ⟨e, by unfold resK; rw [e]; rfl⟩
theorem errK1 {vs : List VV} {n : Nat} (h : ¬ 4096 < n) (hf : allV vs n = false) : errK vs n = 1 ∧ resK vs n = [] := by
  have e : errK vs n = 1 := by unfold errK; rw [if_neg h, hf]; rfl
  exact ⟨e, by unfold resK; rw [e]; rfl⟩
theorem errK0 {vs : List VV} {n : Nat} (h : ¬ 4096 < n) (hf : allV vs n = true) : errK vs n = 0 ∧ resK vs n = kbZ vs n := by
  have e : errK vs n = 0 := by unfold errK; rw [if_neg h, hf]; rfl
  exact ⟨e, by unfold resK; rw [e]; rfl⟩
def AnsK (w : World) (vs : List VV) (n : Nat) (e : Ending) (w' : World) : Prop :=
  ∃ a cap, e = .returned (.tuple #[.slice a (resK vs n).length cap, .int .i64 (errK vs n)]) ∧ w'.ownsRow w.heap.size 5 1 (.slice a (resK vs n).length cap) (resK vs n).length ((resK vs n).map (Value.int .u8)) ∧ Below w.heap.size w w'
theorem ansK_nil {w w' : World} {vs : List VV} {n : Nat} {c : Int} (h : errK vs n = c ∧ resK vs n = []) (hb : Below w.heap.size w w') : AnsK w vs n (.returned (.tuple #[.slice none 0 0, .int .i64 c])) w' := by
  unfold AnsK
  rw [h.1, h.2]
  exact ⟨none, 0, rfl, World.ownsRow_nil _ _ _ _, hb⟩
theorem ansK_empty {w w1 : World} {vs : List VV} {n : Nat} {c : Int} (h : errK vs n = c ∧ resK vs n = []) (hb : Below w.heap.size w w1) : AnsK w vs n (.returned (.tuple #[.slice (some ⟨w1.heap.size, 0, none⟩) 0 0, .int .i64 c])) (w1.alloc (.cells #[] 5)) := by
  unfold AnsK
  rw [h.1, h.2]
  exact ⟨_, 0, rfl, World.ownsRow_lit w1 #[] 0 hb.size (Nat.zero_le _) rfl, hb.alloc hb.size _⟩
theorem ansK_own {w w' : World} {vs : List VV} {n : Nat} {v : Value} (h : errK vs n = 0 ∧ resK vs n = kbZ vs n) (ho : w'.ownsRow w.heap.size 5 1 v (kbZ vs n).length ((kbZ vs n).map (Value.int .u8))) (hb : Below w.heap.size w w') : AnsK w vs n (.returned (.tuple #[v, .int .i64 0])) w' := by
  unfold AnsK
  rw [h.1, h.2]
  obtain ⟨a, cap, rfl⟩ := own_slice2 ho
  exact ⟨a, cap, rfl, ho, hb⟩

set_option maxRecDepth 100000 in
set_option maxHeartbeats 2000000 in
theorem c44 (a : Option Addr) (n cap : Nat) (vs : List VV) (w : World) (hr : RdC w a n vs) (hn : n ≤ 1048576) (hs : ∀ v ∈ vs, v.2.2.size ≤ 1048576) :
    Calls Tryd.prog 23 #[.slice a n cap] w fun e w' => e = .returned (.bool (allV vs n)) ∧ Below w.heap.size w w' := by
  obtain ⟨hl, hcs⟩ := hr
  go_enter Tryd.func23, Tryd.ntmps23
  go_wp2
  go_loopw [3] (fun i wr => ∃ k : Nat, k ≤ n ∧ i = .int .i64 k ∧ Hid (allV vs k = true) ∧ Below w.heap.size w wr) (fun i _ => n - (intOf i).toNat)
  case atStart => exact ⟨0, by omega, rfl, rfl, Below.refl _ _⟩
  case round =>
    obtain ⟨k, hk, rfl, HA, hb⟩ := hrel
    by_cases hlt : k < n
    · obtain ⟨b, off, rfl, hbl, hc⟩ := hcs (by omega)
      obtain ⟨⟨vk, vn, vt⟩, hv⟩ : ∃ v, v = vs.getD k dV := ⟨_, rfl⟩
      obtain ⟨d0, d1, d2⟩ := hc k hlt
      rw [← hv] at d0 d1 d2
      have e0 : wr.cell? ⟨b, off + k * 3, none⟩ = some (.int .i64 vk) := by rw [hb.cell (p := ⟨b, off + k * 3, none⟩) hbl, d0]
      have e1 : wr.cell? ⟨b, off + k * 3 + 1, none⟩ = some (.int .i64 vn) := by rw [hb.cell (p := ⟨b, off + k * 3 + 1, none⟩) hbl, d1]
      have e2 : wr.cell? ⟨b, off + k * 3 + 2, none⟩ = some (.string vt) := by rw [hb.cell (p := ⟨b, off + k * 3 + 2, none⟩) hbl, d2]
      have hvs : vt.size ≤ maxLen := by
        have hk' : k < vs.length := by omega
        have := hs (vs.getD k dV) (by rw [List.getD_eq_getElem?_getD, List.getElem?_eq_getElem hk']; exact List.getElem_mem hk')
        rw [← hv] at this
        unfold maxLen
        simp only at this
        omega
      have HK : Hid (allV vs (k + 1) = (allV vs k && okV (vk, vn, vt))) := by rw [hv]; exact allV_step (by omega)
      clear hc hcs hv hs d0 d1 d2
      go_wp2_with fail
      refine (c_specOK _ _ _ _ hvs).mono ?_
      rintro e w1 ⟨rfl, hb1⟩
      have hb' : Below w.heap.size w w1 := hb.trans (hb1.mono hb.size)
      clear hb1 e0 e1 e2
      cases ho : valB vk vn vt
      · have E : Hid (allV vs n = false) := allV_no (k := k + 1) (by omega) (by rw [HK.out]; unfold okV; simp only; rw [ho]; simp)
        go_wp2
        go_ret
        exact ⟨ret_bool E.out.symm, hb'⟩
      · have E : Hid (allV vs (k + 1) = true) := by unfold Hid; rw [HK.out, HA.out]; unfold okV; simp only; rw [ho]; rfl
        go_wp2
        go_roundw
        case rel => exact ⟨k + 1, by omega, by go_num, E, hb'⟩
        case measure => simp [intOf]; omega
    · have e : k = n := by omega
      subst e
      go_wp2
      go_ret
      exact ⟨ret_bool HA.out.symm, hb⟩

set_option maxRecDepth 100000 in
set_option maxHeartbeats 2000000 in
theorem c45 (a : Option Addr) (n cap : Nat) (vs : List VV) (w : World) (hr : RdC w a n vs) (hn : n ≤ 4096) (hok : allV vs n = true) :
    Calls Tryd.prog 24 #[.slice a n cap] w fun e w' => ∃ v, e = .returned v ∧ w'.ownsRow w.heap.size 5 1 v (kbZ vs n).length ((kbZ vs n).map (Value.int .u8)) ∧ Below w.heap.size w w' := by
  obtain ⟨hl, hcs⟩ := hr
  obtain ⟨i0, hi, hz0, hz1, hz2⟩ := info_parts infoB
  have hown0 : (w.alloc (.cells #[] 5)).ownsRow w.heap.size 5 1 (.slice (some ⟨w.heap.size, 0, none⟩) 0 0) 0 [] := World.ownsRow_lit w #[] 0 (Nat.le_refl _) (Nat.zero_le _) rfl
  go_enter Tryd.func24, Tryd.ntmps24
  go_wp2
  go_loopw [3, 4] (fun v i wr => ∃ k : Nat, k ≤ n ∧ i = .int .i64 k ∧ wr.ownsRow w.heap.size 5 1 v (kbZ vs k).length ((kbZ vs k).map (Value.int .u8)) ∧ Below w.heap.size w wr) (fun _ i _ => n - (intOf i).toNat)
  case atStart => exact ⟨0, by omega, rfl, hown0, (Below.refl _ _).alloc (Nat.le_refl _) _⟩
  case round =>
    obtain ⟨k, hk, rfl, hown, hb⟩ := hrel
    by_cases hlt : k < n
    · obtain ⟨b, off, rfl, hbl, hc⟩ := hcs (by omega)
      obtain ⟨⟨vk, vn, vt⟩, hv⟩ : ∃ v, v = vs.getD k dV := ⟨_, rfl⟩
      obtain ⟨d0, d1, d2⟩ := hc k hlt
      rw [← hv] at d0 d1 d2
      have e0 : wr.cell? ⟨b, off + k * 3, none⟩ = some (.int .i64 vk) := by rw [hb.cell (p := ⟨b, off + k * 3, none⟩) hbl, d0]
      have e1 : wr.cell? ⟨b, off + k * 3 + 1, none⟩ = some (.int .i64 vn) := by rw [hb.cell (p := ⟨b, off + k * 3 + 1, none⟩) hbl, d1]
      have e2 : wr.cell? ⟨b, off + k * 3 + 2, none⟩ = some (.string vt) := by rw [hb.cell (p := ⟨b, off + k * 3 + 2, none⟩) hbl, d2]
      have hstep := allV_mono (show k + 1 ≤ n by omega) hok
      rw [allV_step (by omega), ← hv] at hstep
      simp only [Bool.and_eq_true] at hstep
      have HOK : Hid (okV (vk, vn, vt) = true) := hstep.2
      have hlen := kbZ_len k (by omega) hstep.1
      have hkl := keyZ_len hstep.2
      have HZ : Hid (kbZ vs (k + 1) = kbZ vs k ++ keyZ (vk, vn, vt)) := by rw [hv]; exact kbZ_step (by omega)
      obtain ⟨L, hL⟩ : ∃ L, L = (keyZ (vk, vn, vt)).length := ⟨_, rfl⟩
      have HL : Hid (L = (keyZ (vk, vn, vt)).length) := hL
      have hL12 : L ≤ 12 := by omega
      have hlen2 : (kbZ vs k).length ≤ 50000 := by omega
      obtain ⟨av, cv, hv2⟩ := own_slice2 hown
      subst hv2
      clear hc hcs hv d0 d1 d2 hstep hlen hkl hok hL
      go_wp2_with fail
      refine (c54 (vk, vn, vt) _ HOK.out).mono ?_
      rintro e w1 ⟨g1, c1, rfl, ho1, hb1⟩
      rw [← HL.out] at ho1
      rw [← HL.out]
      have hown1 := own_below hown hb1
      have hb' : Below w.heap.size w w1 := hb.trans (hb1.mono hb.size)
      have hs1 : w.heap.size ≤ w1.heap.size := hb'.size
      have HN : Hid (∀ j u, ((keyZ (vk, vn, vt)).map (Value.int .u8))[j]? = some u → w1.cell? ((⟨g1, 0, none⟩ : Addr).add j) = some u) := news_own ho1
      have hL0 : 0 < L := by
        rw [HL.out]; unfold keyZ; split
        · simp
        · split <;> simp
      clear ho1 hb1 e0 e1 e2
      go_wp2_with (at_builtin; refine wpList_append_lies _ rfl (.tmp 12) (.tmp 17) 30 rfl w.heap.size 5 i0 (.int .u8 0) 1 1 Tryd.underlying30 hi hz0 hz1 hz2 rfl (by omega) (.slice av (kbZ vs k).length cv) (kbZ vs k).length ((kbZ vs k).map (Value.int .u8)) rfl hown1 ⟨g1, 0, none⟩ L c1 ((keyZ (vk, vn, vt)).map (Value.int .u8)) rfl (by rw [List.length_map, ← HL.out]; omega) HN.out (ints_oneCell _ _) hL0 (by unfold maxLen; omega) (by omega) hs1 w1.heap.size rfl ?_; intro g cp w2 hown2 hgr2 hat2 hlt2)
      have hb2 : Below w.heap.size w w2 := hb'.grown hgr2 hs1 (fun j hj => (hown1.lt j hj).1)
      have hown3 : w2.ownsRow w.heap.size 5 1 (.slice (some ⟨g, 0, none⟩) ((kbZ vs k).length + L) cp) (kbZ vs (k + 1)).length ((kbZ vs (k + 1)).map (Value.int .u8)) := by
        rw [HZ.out, List.length_append, List.map_append, ← HL.out]; exact hown2
      clear hown2 hgr2 hat2 hlt2 hown1 hb' hown
      go_roundw
      case rel => exact ⟨k + 1, by omega, by go_num, hown3, hb2⟩
      case measure => simp [intOf]; omega
    · have e : k = n := by omega
      subst e
      go_wp2
      go_ret
      exact ⟨_, rfl, hown, hb⟩
end Go.Proofs.YtkfkhfagehcmiaaDoor
