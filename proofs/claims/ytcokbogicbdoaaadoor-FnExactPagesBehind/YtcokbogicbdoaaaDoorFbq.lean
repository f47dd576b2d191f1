/-
  The walks of FieldsBytes: the program's and the specification's make the same bytes, and answer the same code.
-/
import Derived.Test.YtcokbogicbdoaaaDoorZzab
import Derived.Lib.AppendStr
import Derived.Deep.AppendLies
import Derived.Laws.BitsAllLaws
namespace Go.Proofs.YtcokbogicbdoaaaDoor
open Go Go.RowKit
attribute [local go_sem ↓] Go.wp_at_zero Go.wp_at_succ

/-- append of a string's bytes, at a step of a region that draws its order. -/
theorem step_append_str {P : Program} (w : World) {ops : Array Oper} {o : Oper} {a : Act} {K : Act → World → Prop} {Q : Exit → Act → World → Prop} {E : Prop} (hgd : o.guard = none) (sl x : Operand) (t u : TypeId)
    (ho : o.op = .call { callee := .builtin .append, args := #[sl, x], argTypes := #[t, u] })
    (base : Nat) (e : TypeId) (i : TypeInfo) (ht : P.underlying t = some (.slice e)) (hu : P.underlying u = some .string) (hi : P.info? e = some i) (hz : i.zero = some (.int .u8 0))
    (hsize : i.size = 1) (hby : i.bytes = 1)
    (v : Value) (n : Nat) (xs : List Value) (hs : a.eval sl = v) (hown : w.ownsRow base e 1 v n xs) (s : ByteArray) (hx : a.eval x = .string s)
    (h63 : n + s.size ≤ maxLen) (hbytes : n + s.size ≤ 140737488355328) (hbase : base ≤ w.heap.size)
    (h : ∀ v' w', w'.ownsRow base e 1 v' (n + s.size) (xs ++ Lib.strCells s) → w.grownBy w' v.ownBlock → K (a.put o.dst v') w') :
    if Region.wanted o (yielded ops a.tmps) = true then Oper.wp P o a w K Q else E := by
  have hw : Region.wanted o (yielded ops a.tmps) = true := by simp [Region.wanted, hgd]
  rw [if_pos hw]
  obtain ⟨v', w', hr, h2, h3, h4⟩ := Lib.run_append_own_string (P := P) w base t u o.type e i ht hu hi hz hsize hby v n xs hown s h63 hbytes hbase
  unfold Oper.wp execOp
  simp only [ho, resolve, invoke, builtin, Sem.run_bind, Sem.run_pure, Result.andThen_ok, List.map_toArray, List.map_cons, List.map_nil, hs, hx, hr]
  exact h v' w' h2 h3

def strZ (s : ByteArray) : List Int := s.data.toList.map fun b => (b.toNat : Int)
theorem strZ_cells (s : ByteArray) : (strZ s).map (Value.int .u8) = Lib.strCells s := by
  simp [strZ, Lib.strCells, List.map_map, Function.comp_def]
theorem strZ_len (s : ByteArray) : (strZ s).length = s.size := by simp [strZ]
/-- The bytes of the first k of n fields. -/
def fbZ (ss : List ByteArray) (n k : Nat) : List Int := (n : Int) :: ((ss.take k).map fun s => (s.size : Int) :: strZ s).flatten
theorem fbZ_step {ss : List ByteArray} {n k : Nat} (h : k < ss.length) : fbZ ss n (k + 1) = fbZ ss n k ++ (((ss.getD k ⟨#[]⟩).size : Int) :: strZ (ss.getD k ⟨#[]⟩)) := by
  unfold fbZ
  rw [List.take_succ_eq_append_getElem h, List.map_append, List.flatten_append, List.getD_eq_getElem?_getD, List.getElem?_eq_getElem h]
  simp
def okF (ss : List ByteArray) (k : Nat) : Bool := (ss.take k).all fun s => decide (s.size ≤ 255)
theorem okF_step {ss : List ByteArray} {k : Nat} (h : k < ss.length) : okF ss (k + 1) = (okF ss k && decide ((ss.getD k ⟨#[]⟩).size ≤ 255)) := by
  unfold okF
  rw [List.take_succ_eq_append_getElem h, List.all_append, List.getD_eq_getElem?_getD, List.getElem?_eq_getElem h]
  simp
theorem okF_full {ss : List ByteArray} {k : Nat} (hf : okF ss k = false) : okF ss ss.length = false := by
  unfold okF at *
  rw [List.all_eq_false] at *
  obtain ⟨x, hx, hx2⟩ := hf
  exact ⟨x, by rw [List.take_length]; exact List.mem_of_mem_take hx, hx2⟩
theorem fbZ_len {ss : List ByteArray} {n : Nat} : ∀ k, k ≤ ss.length → okF ss k = true → (fbZ ss n k).length ≤ 1 + k * 256
  | 0, _, _ => by simp [fbZ]
  | k + 1, h, ho => by
    rw [okF_step (by omega)] at ho
    simp only [Bool.and_eq_true, decide_eq_true_eq] at ho
    have := fbZ_len (n := n) k (by omega) ho.1
    rw [fbZ_step (by omega), List.length_append, List.length_cons, strZ_len]
    omega
/-- The code, and the bytes. -/
def errF (ss : List ByteArray) (n : Nat) : Int := if 4096 < n then 2 else if 100 < n then 6 else if okF ss n then 0 else 4
def resF (ss : List ByteArray) (n : Nat) : List Int := if errF ss n = 0 then fbZ ss n n else []

theorem own_slice {w : World} {base e size n : Nat} {v : Value} {xs : List Value} (h : w.ownsRow base e size v n xs) : ∃ a cap, v = .slice a n cap := by
  rcases own_form h with ⟨rfl, rfl⟩ | ⟨g, cap, rfl, _, _⟩
  · exact ⟨none, 0, rfl⟩
  · exact ⟨_, cap, rfl⟩

theorem okF_mono {ss : List ByteArray} {n k : Nat} (hk : k ≤ n) (hf : okF ss n = true) : okF ss k = true := by
  unfold okF at *
  rw [List.all_eq_true] at *
  exact fun x hx => hf x (List.take_subset_take_left ss hk hx)
theorem okF_at {ss : List ByteArray} {n k : Nat} (hl : ss.length = n) (hk : k < n) (hf : okF ss n = true) : okF ss (k + 1) = true ∧ (ss.getD k ⟨#[]⟩).size ≤ 255 := by
  have h := okF_mono (show k + 1 ≤ n by omega) hf
  refine ⟨h, ?_⟩
  rw [okF_step (by omega)] at h
  simp only [Bool.and_eq_true, decide_eq_true_eq] at h
  exact h.2
theorem far {w w' : World} {base b o e n : Nat} {v u : Value} {xs : List Value} (hg : w.grownBy w' v.ownBlock) (hown : w.ownsRow base e 1 v n xs) (hb : b < base) (hbase : base ≤ w.heap.size) (h : w.cell? ⟨b, o, none⟩ = some u) : w'.cell? ⟨b, o, none⟩ = some u := by
  rw [hg.cell_far ⟨b, o, none⟩ (Nat.lt_of_lt_of_le hb hbase) (fun e => by have := (hown.lt b e.symm).1; omega)]
  exact h

set_option maxRecDepth 100000 in
set_option maxHeartbeats 2000000 in
theorem c_lF (a : Option Addr) (n cap : Nat) (ss : List ByteArray) (w : World) (hr : RdV w a n (ss.map Value.string)) (hn : n ≤ 100) (hok : okF ss n = true) :
    Calls Tryd.prog 45 #[.slice a n cap] w fun e w' => ∃ v, e = .returned v ∧ w'.ownsRow w.heap.size 5 1 v (fbZ ss n n).length ((fbZ ss n n).map (Value.int .u8)) ∧ Below w.heap.size w w' := by
  obtain ⟨hl, hcs⟩ := hr
  simp only [List.length_map] at hl
  obtain ⟨i0, hi, hz0, hz1, hz2⟩ := info_parts infoB
  have hown0 : (w.alloc (.cells #[.int .u8 (n : Int)] 5)).ownsRow w.heap.size 5 1 (.slice (some ⟨w.heap.size, 0, none⟩) 1 1) (fbZ ss n 0).length ((fbZ ss n 0).map (Value.int .u8)) := by
    have := World.ownsRow_lit (base := w.heap.size) (e := 5) (size := 1) w #[.int .u8 (n : Int)] 1 (Nat.le_refl _) (by unfold maxLen; omega) rfl
    simpa [fbZ] using this
  go_enter Tryd.func45, Tryd.ntmps45
  go_wp2
  go_loopw [3, 4] (fun v i wr => ∃ k : Nat, k ≤ n ∧ i = .int .i64 k ∧ Hid (okF ss k = true) ∧ wr.ownsRow w.heap.size 5 1 v (fbZ ss n k).length ((fbZ ss n k).map (Value.int .u8)) ∧ Below w.heap.size w wr) (fun _ i _ => n - (intOf i).toNat)
  case atStart => exact ⟨0, by omega, rfl, rfl, hown0, (Below.refl _ _).alloc (Nat.le_refl _) _⟩
  case round =>
    obtain ⟨k, hk, rfl, HO, hown, hb⟩ := hrel
    by_cases hlt : k < n
    · obtain ⟨b, off, rfl, hbl, hc⟩ := hcs (by omega)
      obtain ⟨x, hx⟩ : ∃ x, x = ss.getD k ⟨#[]⟩ := ⟨_, rfl⟩
      have hck : wr.cell? ⟨b, off + k, none⟩ = some (Value.string x) := by rw [hb.cell (p := ⟨b, off + k, none⟩) hbl, hx, hc k hlt]; exact map_get _ _ _ _ (by omega)
      obtain ⟨av, cv, hv⟩ := own_slice hown
      subst hv
      obtain ⟨hok1, hx255⟩ := okF_at hl hlt hok
      rw [← hx] at hx255
      have HX : Hid (fbZ ss n (k + 1) = fbZ ss n k ++ ((x.size : Int) :: strZ x)) := by rw [hx]; exact fbZ_step (by omega)
      have HK1 : Hid (okF ss (k + 1) = true) := hok1
      have hlen := fbZ_len (n := n) k (by omega) HO.out
      have hlen2 : (fbZ ss n k).length ≤ 30000 := by omega
      have hbs : w.heap.size ≤ wr.heap.size := hb.size
      have g1 : (0 : Int) ≤ (k : Int) := by omega
      have g2 : (k : Int) < (n : Int) := by omega
      have hw8 : IntKind.u8.wrap (x.size : Int) = (x.size : Int) := by rw [IntKind.wrap_u8']; omega
      clear hc hcs hok hok1 hx hlen
      go_wp2_with fail
      go_region_held3 (fun y => y.cell? ⟨b, off + k, none⟩ = some (.string x))
        (first | go_keep | (exact far hgr1 (by exact hown.alloc _) hbl (by simp; omega) (by assumption)) | (exact far hgr2 hown1 hbl (by have := hgr1.size; simp at this; omega) (by assumption)))
        (first
          | (refine step_append_lies _ (by rfl) (.tmp 15) (.tmp 22) 54 (by rfl) w.heap.size 5 i0 (.int .u8 0) 1 1 Tryd.underlying54 hi hz0 hz1 hz2 rfl (by omega) (.slice av (fbZ ss n k).length cv) (fbZ ss n k).length ((fbZ ss n k).map (Value.int .u8)) (by rfl) (by exact hown.alloc _) ⟨wr.heap.size, 0, none⟩ 1 1 [.int .u8 (x.size : Int)] (by rfl) (by rfl) (by exact cell_one_new wr _ _) (by intro u hu; simp at hu; subst hu; rfl) (by omega) (by unfold maxLen; omega) (by omega) (by simp; omega) (wr.heap.size + 1) (by simp) ?_; intro g cp w1 hown1 hgr1 hat1 hlt1)
          | (have _h1 := hown1; refine step_append_str _ (by rfl) (.tmp 23) (.tmp 27) 54 9 (by rfl) w.heap.size 5 i0 Tryd.underlying54 Tryd.underlying9 hi hz0 hz1 hz2 (.slice (some ⟨g, 0, none⟩) ((fbZ ss n k).length + 1) cp) ((fbZ ss n k).length + 1) ((fbZ ss n k).map (Value.int .u8) ++ [.int .u8 (x.size : Int)]) (by rfl) hown1 x (by rfl) (by unfold maxLen; omega) (by omega) (by have := hgr1.size; simp at this; omega) ?_; intro v2 w2 hown2 hgr2))
      have hb1 : Below w.heap.size w w1 := (hb.alloc hbs _).drew.grown hgr1 (by simp; omega) (fun j hj => (hown.lt j hj).1)
      have hb2 : Below w.heap.size w w2 := hb1.grown hgr2 hb1.size (fun j hj => (hown1.lt j hj).1)
      have hown3 : w2.ownsRow w.heap.size 5 1 v2 (fbZ ss n (k + 1)).length ((fbZ ss n (k + 1)).map (Value.int .u8)) := by
        have e1 : (fbZ ss n (k + 1)).length = (fbZ ss n k).length + 1 + x.size := by rw [HX.out, List.length_append, List.length_cons, strZ_len]; omega
        have e2 : (fbZ ss n (k + 1)).map (Value.int .u8) = (fbZ ss n k).map (Value.int .u8) ++ [.int .u8 (x.size : Int)] ++ Lib.strCells x := by
          rw [HX.out, List.map_append, List.map_cons, strZ_cells]; simp
        rw [e1, e2]; exact hown2
      clear hown2 hown1 hgr1 hgr2 hat1 hlt1 hb1 hown hck
      go_wp2
      go_roundw
      case rel => exact ⟨k + 1, by omega, by go_num, HK1, hown3, hb2⟩
      case measure => simp [intOf]; omega
    · have e : k = n := by omega
      subst e
      go_wp2
      go_ret
      exact ⟨_, rfl, hown, hb⟩

theorem err2 {ss : List ByteArray} {n : Nat} (h : 4096 < n) : errF ss n = 2 ∧ resF ss n = [] := by
  have e : errF ss n = 2 := by unfold errF; rw [if_pos h]
  exact ⟨e, by unfold resF; rw [e]; rfl⟩
theorem err6 {ss : List ByteArray} {n : Nat} (h0 : ¬ 4096 < n) (h : 100 < n) : errF ss n = 6 ∧ resF ss n = [] := by
  have e : errF ss n = 6 := by unfold errF; rw [if_neg h0, if_pos h]
  exact ⟨e, by unfold resF; rw [e]; rfl⟩
theorem err4 {ss : List ByteArray} {n : Nat} (h : ¬ 100 < n) (hf : okF ss n = false) : errF ss n = 4 ∧ resF ss n = [] := by
  have e : errF ss n = 4 := by unfold errF; rw [if_neg (by omega), if_neg h, hf]; rfl
  exact ⟨e, by unfold resF; rw [e]; rfl⟩
theorem err0 {ss : List ByteArray} {n : Nat} (h : ¬ 100 < n) (hf : okF ss n = true) : errF ss n = 0 ∧ resF ss n = fbZ ss n n := by
  have e : errF ss n = 0 := by unfold errF; rw [if_neg (by omega), if_neg h, hf]; rfl
  exact ⟨e, by unfold resF; rw [e]; rfl⟩
/-- What both answer: a slice of the call's own with the bytes, and the code. -/
def AnsF (w : World) (ss : List ByteArray) (n : Nat) (e : Ending) (w' : World) : Prop :=
  ∃ a cap, e = .returned (.tuple #[.slice a (resF ss n).length cap, .int .i64 (errF ss n)]) ∧ w'.ownsRow w.heap.size 5 1 (.slice a (resF ss n).length cap) (resF ss n).length ((resF ss n).map (Value.int .u8)) ∧ Below w.heap.size w w'
theorem ansF_nil {w : World} {ss : List ByteArray} {n : Nat} {c : Int} {w' : World} (h : errF ss n = c ∧ resF ss n = []) (hb : Below w.heap.size w w') : AnsF w ss n (.returned (.tuple #[.slice none 0 0, .int .i64 c])) w' := by
  unfold AnsF
  rw [h.1, h.2]
  exact ⟨none, 0, rfl, World.ownsRow_nil _ _ _ _, hb⟩
theorem ansF_empty {w w1 : World} {ss : List ByteArray} {n : Nat} {c : Int} (h : errF ss n = c ∧ resF ss n = []) (hb : Below w.heap.size w w1) : AnsF w ss n (.returned (.tuple #[.slice (some ⟨w1.heap.size, 0, none⟩) 0 0, .int .i64 c])) (w1.alloc (.cells #[] 5)) := by
  unfold AnsF
  rw [h.1, h.2]
  exact ⟨_, 0, rfl, World.ownsRow_lit w1 #[] 0 hb.size (Nat.zero_le _) rfl, hb.alloc hb.size _⟩
theorem ansF_own {w w' : World} {ss : List ByteArray} {n : Nat} {v : Value} (h : errF ss n = 0 ∧ resF ss n = fbZ ss n n) (ho : w'.ownsRow w.heap.size 5 1 v (fbZ ss n n).length ((fbZ ss n n).map (Value.int .u8))) (hb : Below w.heap.size w w') : AnsF w ss n (.returned (.tuple #[v, .int .i64 0])) w' := by
  unfold AnsF
  rw [h.1, h.2]
  obtain ⟨a, cap, rfl⟩ := own_slice ho
  exact ⟨a, cap, rfl, ho, hb⟩

end Go.Proofs.YtcokbogicbdoaaaDoor
