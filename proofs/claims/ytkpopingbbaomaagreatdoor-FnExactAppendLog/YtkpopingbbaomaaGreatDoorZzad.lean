/-
  Sums of bytes as four bytes, and bytes with their sum behind.
-/
import Derived.Test.YtkpopingbbaomaaGreatDoorMkq
import Derived.Lib.AppendStr
import Derived.Deep.AppendLies
import Derived.Laws.BitsAllLaws
import Derived.Test.YtkpopingbbaomaaGreatDoorZzac
import Derived.Deep.RegionLawGrows
namespace Go.Proofs.YtkpopingbbaomaaGreatDoor
open Go Go.RowKit
attribute [local go_sem ↓] Go.wp_at_zero Go.wp_at_succ

/-- append of a string's bytes, at a step of a region that draws its order. -/
theorem step_append_str {P : Program} (w : World) {ops : Array Oper} {o : Oper} {a : Act} {K : Act → World → Prop} {Q : Exit → Act → World → Prop} {E : Prop} (hgd : o.guard = none) (sl x : Operand) (t u : TypeId)
    (ho : o.op = .call { callee := .builtin .append, args := #[sl, x], argTypes := #[t, u] })
    (base : Nat) (e : TypeId) (i : TypeInfo) (ht : P.underlying t = some (.slice e)) (hu : P.underlying u = some .string) (hi : P.info? e = some i) (hz : i.zero = some (.int .u8 0))
    (hsize : i.size = 1) (hby : i.bytes = 1)
    (v : Value) (n : Nat) (xs : List Value) (hs : a.eval sl = v) (hown : w.ownsRow base e 1 v n xs) (s : ByteArray) (hx : a.eval x = .string s)
    (h63 : n + s.size ≤ maxLen) (hbytes : n + s.size ≤ 140737488355328) (hbase : base ≤ w.heap.size)
    (h : ∀ v' w', w'.ownsRow base e 1 v' (n + s.size) (xs ++ Lib.strCells s) → w.grownBy w' v.ownBlock → K (a.put o.dst v') w') :
    if Region.wanted o (yielded ops a.tmps) = true then Oper.wp P o a w K Q else E := by
  have hw : Region.wanted o (yielded ops a.tmps) = true := by simp [Region.wanted, hgd]
  rw [if_pos hw]
  obtain ⟨v', w', hr, h2, h3, h4⟩ := Lib.run_append_own_string (P := P) w base t u o.type e i ht hu hi hz hsize hby v n xs hown s h63 hbytes hbase
  unfold Oper.wp execOp
  simp only [ho, resolve, invoke, builtin, Sem.run_bind, Sem.run_pure, Result.andThen_ok, List.map_toArray, List.map_cons, List.map_nil, hs, hx, hr]
  exact h v' w' h2 h3

def strZ (s : ByteArray) : List Int := s.data.toList.map fun b => (b.toNat : Int)
theorem strZ_cells (s : ByteArray) : (strZ s).map (Value.int .u8) = Lib.strCells s := by
  simp [strZ, Lib.strCells, List.map_map, Function.comp_def]
theorem strZ_len (s : ByteArray) : (strZ s).length = s.size := by simp [strZ]
/-- The bytes of the first k of n fields. -/
def fbZ (ss : List ByteArray) (n k : Nat) : List Int := (n : Int) :: ((ss.take k).map fun s => (s.size : Int) :: strZ s).flatten
theorem fbZ_step {ss : List ByteArray} {n k : Nat} (h : k < ss.length) : fbZ ss n (k + 1) = fbZ ss n k ++ (((ss.getD k ⟨#[]⟩).size : Int) :: strZ (ss.getD k ⟨#[]⟩)) := by
  unfold fbZ
  rw [List.take_succ_eq_append_getElem h, List.map_append, List.flatten_append, List.getD_eq_getElem?_getD, List.getElem?_eq_getElem h]
  simp
def okF (ss : List ByteArray) (k : Nat) : Bool := (ss.take k).all fun s => decide (s.size ≤ 255)
theorem okF_step {ss : List ByteArray} {k : Nat} (h : k < ss.length) : okF ss (k + 1) = (okF ss k && decide ((ss.getD k ⟨#[]⟩).size ≤ 255)) := by
  unfold okF
  rw [List.take_succ_eq_append_getElem h, List.all_append, List.getD_eq_getElem?_getD, List.getElem?_eq_getElem h]
  simp
theorem okF_full {ss : List ByteArray} {k : Nat} (hf : okF ss k = false) : okF ss ss.length = false := by
  unfold okF at *
  rw [List.all_eq_false] at *
  obtain ⟨x, hx, hx2⟩ := hf
  exact ⟨x, by rw [List.take_length]; exact List.mem_of_mem_take hx, hx2⟩
theorem fbZ_len {ss : List ByteArray} {n : Nat} : ∀ k, k ≤ ss.length → okF ss k = true → (fbZ ss n k).length ≤ 1 + k * 256
  | 0, _, _ => by simp [fbZ]
  | k + 1, h, ho => by
    rw [okF_step (by omega)] at ho
    simp only [Bool.and_eq_true, decide_eq_true_eq] at ho
    have := fbZ_len (n := n) k (by omega) ho.1
    rw [fbZ_step (by omega), List.length_append, List.length_cons, strZ_len]
    omega
/-- The code, and the bytes. -/
def errF (ss : List ByteArray) (n : Nat) : Int := if 4096 < n then 2 else if 100 < n then 6 else if okF ss n then 0 else 4
def resF (ss : List ByteArray) (n : Nat) : List Int := if errF ss n = 0 then fbZ ss n n else []

theorem own_slice {w : World} {base e size n : Nat} {v : Value} {xs : List Value} (h : w.ownsRow base e size v n xs) : ∃ a cap, v = .slice a n cap := by
  rcases own_form h with ⟨rfl, rfl⟩ | ⟨g, cap, rfl, _, _⟩
  · exact ⟨none, 0, rfl⟩
  · exact ⟨_, cap, rfl⟩

theorem okF_mono {ss : List ByteArray} {n k : Nat} (hk : k ≤ n) (hf : okF ss n = true) : okF ss k = true := by
  unfold okF at *
  rw [List.all_eq_true] at *
  exact fun x hx => hf x (List.take_subset_take_left ss hk hx)
theorem okF_at {ss : List ByteArray} {n k : Nat} (hl : ss.length = n) (hk : k < n) (hf : okF ss n = true) : okF ss (k + 1) = true ∧ (ss.getD k ⟨#[]⟩).size ≤ 255 := by
  have h := okF_mono (show k + 1 ≤ n by omega) hf
  refine ⟨h, ?_⟩
  rw [okF_step (by omega)] at h
  simp only [Bool.and_eq_true, decide_eq_true_eq] at h
  exact h.2
theorem far {w w' : World} {base b o e n : Nat} {v u : Value} {xs : List Value} (hg : w.grownBy w' v.ownBlock) (hown : w.ownsRow base e 1 v n xs) (hb : b < base) (hbase : base ≤ w.heap.size) (h : w.cell? ⟨b, o, none⟩ = some u) : w'.cell? ⟨b, o, none⟩ = some u := by
  rw [hg.cell_far ⟨b, o, none⟩ (Nat.lt_of_lt_of_le hb hbase) (fun e => by have := (hown.lt b e.symm).1; omega)]
  exact h

set_option maxRecDepth 100000 in
set_option maxHeartbeats 2000000 in
theorem c_lF (a : Option Addr) (n cap : Nat) (ss : List ByteArray) (w : World) (hr : RdV w a n (ss.map Value.string)) (hn : n ≤ 100) (hok : okF ss n = true) :
    Calls Tryz.prog 263 #[.slice a n cap] w fun e w' => ∃ v, e = .returned v ∧ w'.ownsRow w.heap.size 5 1 v (fbZ ss n n).length ((fbZ ss n n).map (Value.int .u8)) ∧ Below w.heap.size w w' := by
  obtain ⟨hl, hcs⟩ := hr
  simp only [List.length_map] at hl
  obtain ⟨i0, hi, hz0, hz1, hz2⟩ := info_parts infoB
  have hown0 : (w.alloc (.cells #[.int .u8 (n : Int)] 5)).ownsRow w.heap.size 5 1 (.slice (some ⟨w.heap.size, 0, none⟩) 1 1) (fbZ ss n 0).length ((fbZ ss n 0).map (Value.int .u8)) := by
    have := World.ownsRow_lit (base := w.heap.size) (e := 5) (size := 1) w #[.int .u8 (n : Int)] 1 (Nat.le_refl _) (by unfold maxLen; omega) rfl
    simpa [fbZ] using this
  go_enter Tryz.func263, Tryz.ntmps263
  go_wp2
  go_loopw [3, 4] (fun v i wr => ∃ k : Nat, k ≤ n ∧ i = .int .i64 k ∧ Hid (okF ss k = true) ∧ wr.ownsRow w.heap.size 5 1 v (fbZ ss n k).length ((fbZ ss n k).map (Value.int .u8)) ∧ Below w.heap.size w wr) (fun _ i _ => n - (intOf i).toNat)
  case atStart => exact ⟨0, by omega, rfl, rfl, hown0, (Below.refl _ _).alloc (Nat.le_refl _) _⟩
  case round =>
    obtain ⟨k, hk, rfl, HO, hown, hb⟩ := hrel
    by_cases hlt : k < n
    · obtain ⟨b, off, rfl, hbl, hc⟩ := hcs (by omega)
      obtain ⟨x, hx⟩ : ∃ x, x = ss.getD k ⟨#[]⟩ := ⟨_, rfl⟩
      have hck : wr.cell? ⟨b, off + k, none⟩ = some (Value.string x) := by rw [hb.cell (p := ⟨b, off + k, none⟩) hbl, hx, hc k hlt]; exact map_get _ _ _ _ (by omega)
      obtain ⟨av, cv, hv⟩ := own_slice hown
      subst hv
      obtain ⟨hok1, hx255⟩ := okF_at hl hlt hok
      rw [← hx] at hx255
      have HX : Hid (fbZ ss n (k + 1) = fbZ ss n k ++ ((x.size : Int) :: strZ x)) := by rw [hx]; exact fbZ_step (by omega)
      have HK1 : Hid (okF ss (k + 1) = true) := hok1
      have hlen := fbZ_len (n := n) k (by omega) HO.out
      have hlen2 : (fbZ ss n k).length ≤ 30000 := by omega
      have hbs : w.heap.size ≤ wr.heap.size := hb.size
      have g1 : (0 : Int) ≤ (k : Int) := by omega
      have g2 : (k : Int) < (n : Int) := by omega
      have hw8 : IntKind.u8.wrap (x.size : Int) = (x.size : Int) := by rw [IntKind.wrap_u8']; omega
      clear hc hcs hok hok1 hx hlen
      go_wp2_with fail
      go_region_held3 (fun y => y.cell? ⟨b, off + k, none⟩ = some (.string x))
        (first | go_keep | (exact far hgr1 (by exact hown.alloc _) hbl (by simp; omega) (by assumption)) | (exact far hgr2 hown1 hbl (by have := hgr1.size; simp at this; omega) (by assumption)))
        (first
          | (refine step_append_lies _ (by rfl) (.tmp 15) (.tmp 22) 237 (by rfl) w.heap.size 5 i0 (.int .u8 0) 1 1 Tryz.underlying237 hi hz0 hz1 hz2 rfl (by omega) (.slice av (fbZ ss n k).length cv) (fbZ ss n k).length ((fbZ ss n k).map (Value.int .u8)) (by rfl) (by exact hown.alloc _) ⟨wr.heap.size, 0, none⟩ 1 1 [.int .u8 (x.size : Int)] (by rfl) (by rfl) (by exact cell_one_new wr _ _) (by intro u hu; simp at hu; subst hu; rfl) (by omega) (by unfold maxLen; omega) (by omega) (by simp; omega) (wr.heap.size + 1) (by simp) ?_; intro g cp w1 hown1 hgr1 hat1 hlt1)
          | (have _h1 := hown1; refine step_append_str _ (by rfl) (.tmp 23) (.tmp 27) 237 9 (by rfl) w.heap.size 5 i0 Tryz.underlying237 Tryz.underlying9 hi hz0 hz1 hz2 (.slice (some ⟨g, 0, none⟩) ((fbZ ss n k).length + 1) cp) ((fbZ ss n k).length + 1) ((fbZ ss n k).map (Value.int .u8) ++ [.int .u8 (x.size : Int)]) (by rfl) hown1 x (by rfl) (by unfold maxLen; omega) (by omega) (by have := hgr1.size; simp at this; omega) ?_; intro v2 w2 hown2 hgr2))
      have hb1 : Below w.heap.size w w1 := (hb.alloc hbs _).drew.grown hgr1 (by simp; omega) (fun j hj => (hown.lt j hj).1)
      have hb2 : Below w.heap.size w w2 := hb1.grown hgr2 hb1.size (fun j hj => (hown1.lt j hj).1)
      have hown3 : w2.ownsRow w.heap.size 5 1 v2 (fbZ ss n (k + 1)).length ((fbZ ss n (k + 1)).map (Value.int .u8)) := by
        have e1 : (fbZ ss n (k + 1)).length = (fbZ ss n k).length + 1 + x.size := by rw [HX.out, List.length_append, List.length_cons, strZ_len]; omega
        have e2 : (fbZ ss n (k + 1)).map (Value.int .u8) = (fbZ ss n k).map (Value.int .u8) ++ [.int .u8 (x.size : Int)] ++ Lib.strCells x := by
          rw [HX.out, List.map_append, List.map_cons, strZ_cells]; simp
        rw [e1, e2]; exact hown2
      clear hown2 hown1 hgr1 hgr2 hat1 hlt1 hb1 hown hck
      go_wp2
      go_roundw
      case rel => exact ⟨k + 1, by omega, by go_num, HK1, hown3, hb2⟩
      case measure => simp [intOf]; omega
    · have e : k = n := by omega
      subst e
      go_wp2
      go_ret
      exact ⟨_, rfl, hown, hb⟩

theorem err2 {ss : List ByteArray} {n : Nat} (h : 4096 < n) : errF ss n = 2 ∧ resF ss n = [] := by
  have e : errF ss n = 2 := by unfold errF; rw [if_pos h]
  exact ⟨e, by unfold resF; rw [e]; rfl⟩
theorem err6 {ss : List ByteArray} {n : Nat} (h0 : ¬ 4096 < n) (h : 100 < n) : errF ss n = 6 ∧ resF ss n = [] := by
  have e : errF ss n = 6 := by unfold errF; rw [if_neg h0, if_pos h]
  exact ⟨e, by unfold resF; rw [e]; rfl⟩
theorem err4 {ss : List ByteArray} {n : Nat} (h : ¬ 100 < n) (hf : okF ss n = false) : errF ss n = 4 ∧ resF ss n = [] := by
  have e : errF ss n = 4 := by unfold errF; rw [if_neg (by omega), if_neg h, hf]; rfl
  exact ⟨e, by unfold resF; rw [e]; rfl⟩
theorem err0 {ss : List ByteArray} {n : Nat} (h : ¬ 100 < n) (hf : okF ss n = true) : errF ss n = 0 ∧ resF ss n = fbZ ss n n := by
  have e : errF ss n = 0 := by unfold errF; rw [if_neg (by omega), if_neg h, hf]; rfl
  exact ⟨e, by unfold resF; rw [e]; rfl⟩
/-- What both answer: a slice of the call's own with the bytes, and the code. -/
def AnsF (w : World) (ss : List ByteArray) (n : Nat) (e : Ending) (w' : World) : Prop :=
  ∃ a cap, e = .returned (.tuple #[.slice a (resF ss n).length cap, .int .i64 (errF ss n)]) ∧ w'.ownsRow w.heap.size 5 1 (.slice a (resF ss n).length cap) (resF ss n).length ((resF ss n).map (Value.int .u8)) ∧ Below w.heap.size w w'
theorem ansF_nil {w : World} {ss : List ByteArray} {n : Nat} {c : Int} {w' : World} (h : errF ss n = c ∧ resF ss n = []) (hb : Below w.heap.size w w') : AnsF w ss n (.returned (.tuple #[.slice none 0 0, .int .i64 c])) w' := by
  unfold AnsF
  rw [h.1, h.2]
  exact ⟨none, 0, rfl, World.ownsRow_nil _ _ _ _, hb⟩
theorem ansF_empty {w w1 : World} {ss : List ByteArray} {n : Nat} {c : Int} (h : errF ss n = c ∧ resF ss n = []) (hb : Below w.heap.size w w1) : AnsF w ss n (.returned (.tuple #[.slice (some ⟨w1.heap.size, 0, none⟩) 0 0, .int .i64 c])) (w1.alloc (.cells #[] 5)) := by
  unfold AnsF
  rw [h.1, h.2]
  exact ⟨_, 0, rfl, World.ownsRow_lit w1 #[] 0 hb.size (Nat.zero_le _) rfl, hb.alloc hb.size _⟩
theorem ansF_own {w w' : World} {ss : List ByteArray} {n : Nat} {v : Value} (h : errF ss n = 0 ∧ resF ss n = fbZ ss n n) (ho : w'.ownsRow w.heap.size 5 1 v (fbZ ss n n).length ((fbZ ss n n).map (Value.int .u8))) (hb : Below w.heap.size w w') : AnsF w ss n (.returned (.tuple #[v, .int .i64 0])) w' := by
  unfold AnsF
  rw [h.1, h.2]
  obtain ⟨a, cap, rfl⟩ := own_slice ho
  exact ⟨a, cap, rfl, ho, hb⟩

end Go.Proofs.YtkpopingbbaomaaGreatDoor
namespace Go.Proofs.YtkpopingbbaomaaGreatDoor
open Go Go.RowKit

set_option maxRecDepth 100000 in
set_option maxHeartbeats 2000000 in
theorem c_implF (a : Option Addr) (n cap : Nat) (ss : List ByteArray) (w : World) (hr : RdV w a n (ss.map Value.string)) (hn : n ≤ 1048576) (hs : ∀ s ∈ ss, s.size ≤ 1048576) :
    Calls Tryz.prog 297 #[.slice a n cap] w (AnsF w ss n) := by
  obtain ⟨hl, hcs⟩ := hr
  simp only [List.length_map] at hl
  by_cases h1 : 4096 < n
  · have E : Hid (_ ∧ _) := err2 (ss := ss) h1
    go_enter Tryz.func297, Tryz.ntmps297
    go_wp2
    go_ret2
    exact ansF_nil E.out (Below.refl _ _)
  · by_cases h2 : 100 < n
    · have E : Hid (_ ∧ _) := err6 (ss := ss) h1 h2
      go_enter Tryz.func297, Tryz.ntmps297
      go_wp2
      go_ret2
      exact ansF_nil E.out (Below.refl _ _)
    · obtain ⟨i0, hi, hz0, hz1, hz2⟩ := info_parts infoB
      have hown0 : (w.alloc (.cells #[.int .u8 (n : Int)] 5)).ownsRow w.heap.size 5 1 (.slice (some ⟨w.heap.size, 0, none⟩) 1 1) (fbZ ss n 0).length ((fbZ ss n 0).map (Value.int .u8)) := by
        have := World.ownsRow_lit (base := w.heap.size) (e := 5) (size := 1) w #[.int .u8 (n : Int)] 1 (Nat.le_refl _) (by unfold maxLen; omega) rfl
        simpa [fbZ] using this
      go_enter Tryz.func297, Tryz.ntmps297
      go_wp2
      go_loopw [4, 19] (fun v i wr => ∃ k : Nat, k ≤ n ∧ i = .int .i64 k ∧ Hid (okF ss k = true) ∧ wr.ownsRow w.heap.size 5 1 v (fbZ ss n k).length ((fbZ ss n k).map (Value.int .u8)) ∧ Below w.heap.size w wr) (fun _ i _ => n - (intOf i).toNat)
      case atStart => exact ⟨0, by omega, rfl, rfl, hown0, (Below.refl _ _).alloc (Nat.le_refl _) _⟩
      case round =>
        obtain ⟨k, hk, rfl, HO, hown, hb⟩ := hrel
        by_cases hlt : k < n
        · obtain ⟨b, off, rfl, hbl, hc⟩ := hcs (by omega)
          obtain ⟨x, hx⟩ : ∃ x, x = ss.getD k ⟨#[]⟩ := ⟨_, rfl⟩
          have hck : wr.cell? ⟨b, off + k, none⟩ = some (Value.string x) := by rw [hb.cell (p := ⟨b, off + k, none⟩) hbl, hx, hc k hlt]; exact map_get _ _ _ _ (by omega)
          have HK : Hid (okF ss (k + 1) = (okF ss k && decide (x.size ≤ 255))) := by rw [hx]; exact okF_step (by omega)
          have HX : Hid (fbZ ss n (k + 1) = fbZ ss n k ++ ((x.size : Int) :: strZ x)) := by rw [hx]; exact fbZ_step (by omega)
          have hxs : x.size ≤ 1048576 := by
            have hk' : k < ss.length := by omega
            rw [hx, List.getD_eq_getElem?_getD, List.getElem?_eq_getElem hk']; exact hs _ (List.getElem_mem hk')
          have hlen := fbZ_len (n := n) k (by omega) HO.out
          have hlen2 : (fbZ ss n k).length ≤ 30000 := by omega
          have hbs : w.heap.size ≤ wr.heap.size := hb.size
          obtain ⟨av, cv, hv⟩ := own_slice hown
          subst hv
          clear hc hcs hx hs hlen hown0
          by_cases h255 : 255 < x.size
          · have E : Hid (_ ∧ _) := err4 (ss := ss) h2 (by have := okF_full (ss := ss) (k := k + 1) (by rw [HK.out, decide_eq_false (by omega)]; simp); rw [hl] at this; exact this)
            go_wp2
            go_ret2
            exact ansF_nil E.out hb
          · go_wp2_with (first
              | (at_builtin; refine wpList_append_lies _ rfl (.tmp 26) (.tmp 30) 237 rfl w.heap.size 5 i0 (.int .u8 0) 1 1 Tryz.underlying237 hi hz0 hz1 hz2 rfl (by omega) (.slice av (fbZ ss n k).length cv) (fbZ ss n k).length ((fbZ ss n k).map (Value.int .u8)) rfl (hown.alloc _) ⟨wr.heap.size, 0, none⟩ 1 1 [.int .u8 (x.size : Int)] rfl rfl (cell_one_new wr _ _) (by intro u hu; simp at hu; subst hu; rfl) (by omega) (by unfold maxLen; omega) (by omega) (by simp; omega) (wr.heap.size + 1) (by simp) ?_; intro g cp w1 hown1 hgr1 hat1 hlt1)
              | (at_builtin; refine Lib.wpList_append_own_string _ rfl (.tmp 32) (.tmp 33) 237 9 rfl w.heap.size 5 i0 Tryz.underlying237 Tryz.underlying9 hi hz0 hz1 hz2 (.slice (some ⟨g, 0, none⟩) ((fbZ ss n k).length + 1) cp) ((fbZ ss n k).length + 1) ((fbZ ss n k).map (Value.int .u8) ++ [.int .u8 (x.size : Int)]) rfl hown1 x rfl (by unfold maxLen; omega) (by omega) (by have := hgr1.size; simp at this; omega) ?_; intro v2 w2 hown2 hgr2 _))
            have hb1 : Below w.heap.size w w1 := (hb.alloc hbs _).grown hgr1 (by simp; omega) (fun j hj => (hown.lt j hj).1)
            have hb2 : Below w.heap.size w w2 := hb1.grown hgr2 hb1.size (fun j hj => (hown1.lt j hj).1)
            have hown3 : w2.ownsRow w.heap.size 5 1 v2 (fbZ ss n (k + 1)).length ((fbZ ss n (k + 1)).map (Value.int .u8)) := by
              have e1 : (fbZ ss n (k + 1)).length = (fbZ ss n k).length + 1 + x.size := by rw [HX.out, List.length_append, List.length_cons, strZ_len]; omega
              have e2 : (fbZ ss n (k + 1)).map (Value.int .u8) = (fbZ ss n k).map (Value.int .u8) ++ [.int .u8 (x.size : Int)] ++ Lib.strCells x := by
                rw [HX.out, List.map_append, List.map_cons, strZ_cells]; simp
              rw [e1, e2]; exact hown2
            clear hown2 hown1 hgr1 hgr2 hat1 hlt1 hb1 hown hck
            go_roundw
            case rel => exact ⟨k + 1, by omega, by go_num, by rw [HK.out, HO.out, decide_eq_true (by omega)]; rfl, hown3, hb2⟩
            case measure => simp [intOf]; omega
        · have e : k = n := by omega
          subst e
          have E : Hid (_ ∧ _) := err0 (ss := ss) h2 HO.out
          go_wp2
          go_ret2
          exact ansF_own E.out hown hb
end Go.Proofs.YtkpopingbbaomaaGreatDoor
namespace Go.Proofs.YtkpopingbbaomaaGreatDoor
open Go Go.RowKit
attribute [local go_sem ↓] Go.wp_at_zero Go.wp_at_succ


theorem box4 {w : World} {g : Nat} {t : TypeId} {v0 v1 v2 v3 : Value} (h : Box w g t #[v0, v1, v2, v3]) : w.cell? ⟨g, 0, none⟩ = some v0 ∧ w.cell? ⟨g, 1, none⟩ = some v1 ∧ w.cell? ⟨g, 2, none⟩ = some v2 ∧ w.cell? ⟨g, 3, none⟩ = some v3 := ⟨h.cell 0, h.cell 1, h.cell 2, h.cell 3⟩
theorem loadVar4 {w : World} {r : Nat} {v0 v1 v2 v3 : Value} (hb : Box w r 360 #[v0, v1, v2, v3]) : (loadVar 360 ⟨r, 0, none⟩).run Tryz.prog w = .ok (.agg #[v0, v1, v2, v3]) w := by
  have e0 : w.cell? ⟨r, 0, none⟩ = some v0 := hb.cell 0
  have e1 : w.cell? ⟨r, 1, none⟩ = some v1 := hb.cell 1
  have e2 : w.cell? ⟨r, 2, none⟩ = some v2 := hb.cell 2
  have e3 : w.cell? ⟨r, 3, none⟩ = some v3 := hb.cell 3
  simp [go_sem, e0, e1, e2, e3]
theorem ret4 {fn : Func} {p : Tmp} (h : fn.results = #[.cell p 360]) {R : Ending → World → Prop} {a : Act} {w : World} {r : Nat} {v0 v1 v2 v3 : Value} (hp : a.tmps.getD p undef = .pointer (some ⟨r, 0, none⟩)) (hd : a.defers = []) (hb : Box w r 360 #[v0, v1, v2, v3]) (hR : R (.returned (.agg #[v0, v1, v2, v3])) w) : bodyPost Tryz.prog fn R .ret a w := by
  refine bodyPost_ret ?_ hd hR
  have hp' : a.tmps[p]?.getD undef = .pointer (some ⟨r, 0, none⟩) := by simpa using hp
  simp only [results, h]
  simp [hp', asAddr, loadVar4 hb]
theorem put4_box {V : World} {r : Nat} {t : TypeId} {x0 x1 x2 x3 : Value} (h : Box V r t #[x0, x1, x2, x3]) (v0 v1 v2 v3 : Value) : Box ((((V.setCell ⟨r, 0, none⟩ v0).setCell ⟨r, 1, none⟩ v1).setCell ⟨r, 2, none⟩ v2).setCell ⟨r, 3, none⟩ v3) r t #[v0, v1, v2, v3] := by
  have := (((h.set 0 v0).set 1 v1).set 2 v2).set 3 v3
  simpa using this
theorem put4_below {B : Nat} {w V : World} (hb : Below B w V) {r : Nat} (hr : B ≤ r) (v0 v1 v2 v3 : Value) : Below B w ((((V.setCell ⟨r, 0, none⟩ v0).setCell ⟨r, 1, none⟩ v1).setCell ⟨r, 2, none⟩ v2).setCell ⟨r, 3, none⟩ v3) :=
  (((hb.setCell hr _).setCell hr _).setCell hr _).setCell hr _
theorem c_high (u : Int) (w : World) (h0 : 0 ≤ u) (h1 : u < 4294967296) :
    Calls Tryz.prog 311 #[.int .u32 u] w fun e w' => e = .returned (.agg #[.int .u8 (u / 16777216), .int .u8 (u / 65536 % 256), .int .u8 (u / 256 % 256), .int .u8 (u % 256)]) ∧ Below w.heap.size w w' := by
  go_enter Tryz.func311, Tryz.ntmps311
  go_wp2
  exact bodyPost_ret (v := .agg #[.int .u8 (u / 16777216), .int .u8 (u / 65536 % 256), .int .u8 (u / 256 % 256), .int .u8 (u % 256)]) (by simp [results, Tryz.results311, go_sem]) rfl ⟨rfl, (Below.refl _ _).alloc (Nat.le_refl _) _⟩
theorem crc_lt (zs : List Int) (hz : ∀ z ∈ zs, 0 ≤ z ∧ z < 256) : Crc.crc zs < 4294967296 := by
  unfold Crc.crc
  exact Nat.xor_lt_two_pow (n := 32) (Crc.run_lt _ hz) (by decide)
def sumZ (c : Int) : List Int := [c / 16777216, c / 65536 % 256, c / 256 % 256, c % 256]
set_option maxRecDepth 100000 in
set_option maxHeartbeats 2000000 in
theorem c_sumOf (a : Option Addr) (n cap : Nat) (zs : List Int) (w : World) (hr : RdV w a n (zs.map (Value.int .u8))) (hz : ∀ z ∈ zs, 0 ≤ z ∧ z < 256) (hn : n ≤ 65536) (ht : TabH w) (C : Int) (hC : C = (Crc.crc zs : Nat)) :
    Calls Tryz.prog 303 #[.slice a n cap] w fun e w' => e = .returned (.agg #[.int .u8 (C / 16777216), .int .u8 (C / 65536 % 256), .int .u8 (C / 256 % 256), .int .u8 (C % 256)]) ∧ Below w.heap.size w w' := by
  have hl := crc_lt zs hz
  have hC0 : 0 ≤ C := by omega
  have hC1 : C < 4294967296 := by omega
  have hw : IntKind.u32.wrap C = C := by rw [IntKind.wrap_u32']; omega
  have CK : Hid (∀ W, Below w.heap.size w W → Calls Tryz.prog 312 #[.slice a n cap] W fun e w' => e = .returned (.int .i64 C) ∧ w' = W) := fun W hW => by
    rw [hC]
    exact c12_lo a n cap zs W (rd_of_V (hr.below hW) hz) (by omega) (ht.below hW)
  clear hr hz ht hl hC
  obtain ⟨V, hV⟩ : ∃ V, w.alloc (.cells #[.int .u8 0, .int .u8 0, .int .u8 0, .int .u8 0] 360) = V := ⟨_, rfl⟩
  have HB : Hid (Below w.heap.size w V) := by unfold Hid; rw [← hV]; exact (Below.refl _ _).alloc (Nat.le_refl _) _
  have BR : Hid (Box V w.heap.size 360 #[.int .u8 0, .int .u8 0, .int .u8 0, .int .u8 0]) := by unfold Hid; rw [← hV]; exact Box.new _ _ _
  go_enter Tryz.func303, Tryz.ntmps303
  go_wp2_with fail
  refine (CK.out V HB.out).mono ?_
  rintro e w1 ⟨rfl, hq⟩
  have hq' := hq.symm
  subst hq'
  clear hq CK
  go_wp2_with fail
  refine (c_high C V hC0 hC1).mono ?_
  rintro e w2 ⟨rfl, hb⟩
  have B2 : Hid (Below w.heap.size w w2) := HB.out.trans (hb.mono HB.out.size)
  have BR2 : Hid (Box w2 w.heap.size 360 #[.int .u8 0, .int .u8 0, .int .u8 0, .int .u8 0]) := BR.out.belowS hb
  clear hb HB BR hV hw hC0 hC1
  obtain ⟨v0, v1, v2, v3⟩ := box4 BR2.out
  have t0 := BR2.out.thaw 0
  have t1 := BR2.out.thaw 1
  have t2 := BR2.out.thaw 2
  have t3 := BR2.out.thaw 3
  go_wp2
  exact ret4 Tryz.results303 rfl rfl (put4_box BR2.out _ _ _ _) ⟨rfl, put4_below B2.out (Nat.le_refl _) _ _ _ _⟩

theorem sumZ_map (C : Int) : (sumZ C).map (Value.int .u8) = (#[.int .u8 (C / 16777216), .int .u8 (C / 65536 % 256), .int .u8 (C / 256 % 256), .int .u8 (C % 256)] : Array Value).toList := rfl
theorem box_src {W : World} {g : Nat} {t : TypeId} {c : Array Value} (h : Box W g t c) : ∀ j u, c.toList[j]? = some u → W.cell? ((⟨g, 0, none⟩ : Addr).add j) = some u := by
  intro j u hj
  rw [addr_add, Nat.zero_add, h.cell j]
  simpa using hj

end Go.Proofs.YtkpopingbbaomaaGreatDoor
