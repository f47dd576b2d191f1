/-
  Bytes whose sum stands behind them: the specification's own.
-/
import Derived.Test.YtcokbogicbdoaaaDoorZzaf
import Derived.Test.YtcokbogicbdoaaaDoorRuq
import Derived.Laws.IdiomStrings
namespace Go.Proofs.YtcokbogicbdoaaaDoor
open Go Go.RowKit
attribute [local go_sem ↓] Go.wp_at_zero Go.wp_at_succ


def numD (x : List Int) (b a : ByteArray) : DR := ⟨x.getD 1 0, x.getD 2 0, x.getD 3 0, x.getD 4 0, x.getD 5 0, x.getD 6 0, x.getD 7 0, x.getD 8 0, b, a⟩
def rrD (x : List Int) : Option DR :=
  if x.length < 9 then none else if x.getD 0 0 = 108 then
    (match okR (x.drop 9) with
      | some [b, a] => if okLR (numD x b a) then some (numD x b a) else none
      | _ => none)
  else none
theorem rr_lo {x : List Int} (h : x.length < 9) : rrD x = none := by unfold rrD; rw [if_pos h]
theorem rr_mark {x : List Int} (h : ¬ x.getD 0 0 = 108) : rrD x = none := by unfold rrD; rw [if_neg h]; split <;> rfl
theorem rr_form {x : List Int} (h : okR (x.drop 9) = none) : rrD x = none := by unfold rrD; rw [h]; split <;> (try split) <;> rfl
theorem rr_two {x : List Int} {l : List ByteArray} (h : okR (x.drop 9) = some l) (hl : l.length ≠ 2) : rrD x = none := by
  unfold rrD
  rw [h]
  rcases l with _ | ⟨a, _ | ⟨b, _ | ⟨c, r⟩⟩⟩
  · split <;> (try split) <;> rfl
  · split <;> (try split) <;> rfl
  · simp at hl
  · split <;> (try split) <;> rfl
theorem rr_at {x : List Int} {b a : ByteArray} (h9 : ¬ x.length < 9) (h0 : x.getD 0 0 = 108) (h : okR (x.drop 9) = some [b, a]) : rrD x = if okLR (numD x b a) then some (numD x b a) else none := by
  unfold rrD
  rw [if_neg h9, if_pos h0, h]
theorem rd_sizes : ∀ (c : Nat) (zr : List Int) (l : List ByteArray), (∀ z ∈ zr, 0 ≤ z ∧ z < 256) → rd c zr = some l → ∀ s ∈ l, s.size ≤ 255
  | 0, zr, l, _, h => by
    rw [rd_done] at h
    split at h
    · cases h; intro s hs; cases hs
    · cases h
  | c + 1, [], l, _, h => by rw [rd_none (by omega) rfl] at h; cases h
  | c + 1, z :: r, l, hz, h => by
    by_cases hl : r.length < z.toNat
    · rw [rd_short (by omega) hl] at h; cases h
    · rw [rd_step hl] at h
      cases hr : rd c (r.drop z.toNat) with
      | none => rw [hr] at h; cases h
      | some l' =>
        rw [hr] at h
        simp only [Option.map_some, Option.some.injEq] at h
        subst h
        intro s hs
        rcases List.mem_cons.1 hs with rfl | hs
        · rw [strOfNums_size, List.length_take]
          have := hz z (by simp)
          omega
        · exact rd_sizes c (r.drop z.toNat) l' (fun y hy => hz y (List.mem_cons_of_mem _ (List.mem_of_mem_drop hy))) hr s hs
theorem okR_sizes {zs : List Int} {l : List ByteArray} (hz : ∀ z ∈ zs, 0 ≤ z ∧ z < 256) (h : okR zs = some l) : ∀ s ∈ l, s.size ≤ 255 := by
  unfold okR at h
  split at h
  · cases h
  · split at h
    · cases h
    · exact rd_sizes _ _ _ (fun y hy => hz y (List.mem_cons_of_mem _ hy)) h
theorem loadVarR {w : World} {r : Nat} {D : DR} (hb : Box w r 68 (agR D)) : (loadVar 68 ⟨r, 0, none⟩).run Tryd.prog w = .ok (.agg (agR D)) w := by
  obtain ⟨e0, e1, e2, e3, e4, e5, e6, e7, e8, e9⟩ := box10 hb
  simp [go_sem, e0, e1, e2, e3, e4, e5, e6, e7, e8, e9, agR]
theorem retR2 {fn : Func} {p u : Tmp} (h : fn.results = #[.cell p 68, .tmp u]) {R : Ending → World → Prop} {a : Act} {w : World} {r : Nat} {D : DR} {v : Value} (hp : a.tmps.getD p undef = .pointer (some ⟨r, 0, none⟩)) (hu : a.tmps.getD u undef = v) (hd : a.defers = []) (hb : Box w r 68 (agR D)) (hR : R (.returned (.tuple #[.agg (agR D), v])) w) : bodyPost Tryd.prog fn R .ret a w := by
  refine bodyPost_ret ?_ hd hR
  have hp' : a.tmps[p]?.getD undef = .pointer (some ⟨r, 0, none⟩) := by simpa using hp
  have hu' : a.tmps[u]?.getD undef = v := by simpa using hu
  simp only [results, h]
  simp [Result.andThen, hp', hu', asAddr, loadVarR hb]
def put10 (V : World) (r : Nat) (D : DR) : World := (((((((((V.setCell ⟨r, 0, none⟩ (.int .i64 D.e)).setCell ⟨r, 1, none⟩ (.int .i64 D.l)).setCell ⟨r, 2, none⟩ (.int .i64 D.t)).setCell ⟨r, 3, none⟩ (.int .i64 D.k)).setCell ⟨r, 4, none⟩ (.int .i64 D.p)).setCell ⟨r, 5, none⟩ (.int .i64 D.n)).setCell ⟨r, 6, none⟩ (.int .i64 D.g)).setCell ⟨r, 7, none⟩ (.int .i64 D.s)).setCell ⟨r, 8, none⟩ (.string D.b)).setCell ⟨r, 9, none⟩ (.string D.a)
theorem put10_box {V : World} {r : Nat} {t : TypeId} {D0 : DR} (h : Box V r t (agR D0)) (D : DR) : Box (put10 V r D) r t (agR D) := by
  have := (((((((((h.set 0 (.int .i64 D.e)).set 1 (.int .i64 D.l)).set 2 (.int .i64 D.t)).set 3 (.int .i64 D.k)).set 4 (.int .i64 D.p)).set 5 (.int .i64 D.n)).set 6 (.int .i64 D.g)).set 7 (.int .i64 D.s)).set 8 (.string D.b)).set 9 (.string D.a)
  simpa [agR, put10] using this
theorem put10_below {B : Nat} {w V : World} (hb : Below B w V) {r : Nat} (hr : B ≤ r) (D : DR) : Below B w (put10 V r D) :=
  (((((((((hb.setCell hr _).setCell hr _).setCell hr _).setCell hr _).setCell hr _).setCell hr _).setCell hr _).setCell hr _).setCell hr _).setCell hr _
theorem thaw10 {w : World} {r : Nat} {t : TypeId} {c : Array Value} (h : Box w r t c) : w.frozen? ⟨r, 0, none⟩ = false ∧ w.frozen? ⟨r, 1, none⟩ = false ∧ w.frozen? ⟨r, 2, none⟩ = false ∧ w.frozen? ⟨r, 3, none⟩ = false ∧ w.frozen? ⟨r, 4, none⟩ = false ∧ w.frozen? ⟨r, 5, none⟩ = false ∧ w.frozen? ⟨r, 6, none⟩ = false ∧ w.frozen? ⟨r, 7, none⟩ = false ∧ w.frozen? ⟨r, 8, none⟩ = false ∧ w.frozen? ⟨r, 9, none⟩ = false :=
  ⟨h.thaw 0, h.thaw 1, h.thaw 2, h.thaw 3, h.thaw 4, h.thaw 5, h.thaw 6, h.thaw 7, h.thaw 8, h.thaw 9⟩

end Go.Proofs.YtcokbogicbdoaaaDoor
namespace Go.Proofs.YtcokbogicbdoaaaDoor
open Go Go.RowKit
attribute [local go_sem ↓] Go.wp_at_zero Go.wp_at_succ


def ofL (ts : List Int) : Int := ts.foldl (fun n z => n * 256 + z) 0
theorem ofL_take {ts : List Int} {k : Nat} (h : k < ts.length) : ofL (ts.take (k + 1)) = ofL (ts.take k) * 256 + ts.getD k 0 := by
  unfold ofL
  rw [List.take_succ_eq_append_getElem h, List.foldl_append, List.getD_eq_getElem?_getD, List.getElem?_eq_getElem h]
  rfl
theorem ofL_bd {ts : List Int} (hz : ∀ z ∈ ts, 0 ≤ z ∧ z < 256) : ∀ k, k ≤ ts.length → 0 ≤ ofL (ts.take k) ∧ ofL (ts.take k) < 256 ^ k
  | 0, _ => by simp [ofL]
  | k + 1, h => by
    have h1 := ofL_bd hz k (by omega)
    have h2 := hz (ts.getD k 0) (by rw [List.getD_eq_getElem?_getD, List.getElem?_eq_getElem (by omega)]; exact List.getElem_mem _)
    rw [ofL_take (by omega), Int.pow_succ]
    omega
set_option maxRecDepth 100000 in
set_option maxHeartbeats 2000000 in
theorem c_of (ts : List Int) (w : World) (hz : ∀ z ∈ ts, 0 ≤ z ∧ z < 256) (hn : ts.length ≤ 4) :
    Calls Tryd.prog 68 #[.string (strOfNums ts)] w fun e w' => e = .returned (.int .i64 (ofL ts)) ∧ w' = w := by
  obtain ⟨t, ht⟩ : ∃ t, t = strOfNums ts := ⟨_, rfl⟩
  rw [← ht]
  have hts : t.size = ts.length := by rw [ht, strOfNums_size]
  have HG : Hid (∀ p (h : p < t.size), ((t[p]'h).toNat : Int) = ts.getD p 0) := by
    intro p h; subst ht; exact son_get hz h
  have HZ : Hid (∀ z ∈ ts, 0 ≤ z ∧ z < 256) := hz
  have HTS : Hid (t.size = ts.length) := hts
  have hn4 : t.size ≤ 4 := by omega
  clear ht hz hts hn
  go_enter Tryd.func68, Tryd.ntmps68
  go_wp2
  go_loop [3, 4] (fun m i => ∃ k : Nat, k ≤ t.size ∧ i = .int .i64 k ∧ m = .int .i64 (ofL (ts.take k))) (fun _ i => t.size - (intOf i).toNat)
  case atStart => exact ⟨0, by omega, rfl, rfl⟩
  case round =>
    obtain ⟨k, hk, rfl, rfl⟩ := hrel
    obtain ⟨m, hm⟩ : ∃ m, m = ofL (ts.take k) := ⟨_, rfl⟩
    rw [← hm]
    have hmb : 0 ≤ m ∧ m < 4294967296 := by
      have h1 := ofL_bd HZ.out k (by have := HTS.out; omega)
      rw [← hm] at h1
      have hk4 : k = 0 ∨ k = 1 ∨ k = 2 ∨ k = 3 ∨ k = 4 := by omega
      rcases hk4 with rfl | rfl | rfl | rfl | rfl <;> simp at h1 <;> omega
    have HM : Hid (m = ofL (ts.take k)) := hm
    clear hm
    by_cases hlt : k < t.size
    · obtain ⟨z, hz⟩ : ∃ z : Int, z = ((t[k]'hlt).toNat : Int) := ⟨_, rfl⟩
      have hzb : 0 ≤ z ∧ z < 256 := by rw [hz]; have := (t[k]'hlt).toNat_lt; omega
      have HS : Hid (ofL (ts.take (k + 1)) = m * 256 + z) := by unfold Hid; rw [ofL_take (by have := HTS.out; omega), HM.out, ← HG.out k hlt, hz]
      have hix : ∀ wx : World, (Instr.index 9 (.string t) (.int .i64 (k : Int))).run Tryd.prog wx = .ok (.int .u8 z) wx := fun wx => by
        rw [run_index_string _ _ _ _ _ Tryd.underlying9, hz]
        simp [hlt]
      clear hz
      go_wp2
      go_round
      case rel => exact ⟨k + 1, by omega, by go_num, by rw [HS.out]⟩
      case measure => simp [intOf]; omega
    · have e : k = t.size := by omega
      have E : Hid (m = ofL ts) := by unfold Hid; rw [HM.out, List.take_of_length_le (by have := HTS.out; omega)]
      clear e
      go_wp2
      go_ret
      exact ⟨ret_int E.out, rfl⟩
theorem of_sum {zs : List Int} (h4 : 4 ≤ zs.length) (hz : ∀ z ∈ zs, 0 ≤ z ∧ z < 256) : (((Crc.crc (headZ zs) : Nat) : Int) != ofL (tailZ zs)) = !unsB zs := by
  obtain ⟨t0, t1, t2, t3, ht, e0, e1, e2, e3⟩ := tail4 h4
  have hb : ∀ z ∈ tailZ zs, 0 ≤ z ∧ z < 256 := fun z h => hz z (List.mem_of_mem_drop h)
  rw [ht] at hb
  have b0 := hb t0 (by simp)
  have b1 := hb t1 (by simp)
  have b2 := hb t2 (by simp)
  have b3 := hb t3 (by simp)
  have hc := crc_lt (headZ zs) (head_bytes hz)
  have hl : ofL (tailZ zs) = ((t0 * 256 + t1) * 256 + t2) * 256 + t3 := by rw [ht]; simp [ofL]
  generalize hC : Crc.crc (headZ zs) = C at hc
  by_cases h : ((C : Nat) : Int) = ofL (tailZ zs)
  · have : unsB zs = true := uns_yes h4 (by
      rw [hC, ht]
      rw [hl] at h
      unfold sumZ
      congr 1; omega
      congr 1; omega
      congr 1; omega
      congr 1; omega)
    rw [this]; simp [h]
  · have : unsB zs = false := uns_no (fun e => h (by
      rw [hC, ht] at e
      simp [sumZ] at e
      rw [hl]
      omega))
    rw [this]; simp [h]
def unsT (zs : List Int) (u : Bool) : ByteArray := if u then strOfNums (headZ zs) else ⟨#[]⟩
theorem conv_rd {W : World} {zs : List Int} {c : Nat} {fr : Nat × Nat} (hz : ∀ z ∈ zs, 0 ≤ z ∧ z < 256) : Rd (W.alloc (.cells (bytesRow (strOfNums zs) c) 5 fr)).drew.drew (some ⟨W.heap.size, 0, none⟩) zs.length zs := by
  refine ⟨rfl, hz, fun h => ⟨W.heap.size, 0, rfl, fun i hi => ?_⟩⟩
  have hb : (W.alloc (.cells (bytesRow (strOfNums zs) c) 5 fr)).drew.drew.heap[W.heap.size]? = some (.cells (bytesRow (strOfNums zs) c) 5 fr) := by
    show (W.heap.push _)[W.heap.size]? = _
    simp
  have hsz : i < (strOfNums zs).data.size := by have := strOfNums_size zs; rw [ByteArray.size] at this; omega
  rw [Nat.zero_add, cell_of_row _ W.heap.size i _ 5 fr hb, bytesRow_at _ _ _ hsz]
  have hs2 : i < (strOfNums zs).size := by rw [strOfNums_size]; exact hi
  exact congrArg (fun z => some (Value.int .u8 z)) (son_get (p := i) hz hs2)
theorem headZ_len {zs : List Int} : (headZ zs).length = zs.length - 4 := by unfold headZ; rw [List.length_take]; omega
theorem cut_head {zs : List Int} : (strOfNums zs).extract 0 (zs.length - 4) = strOfNums (headZ zs) := by rw [son_cut]; rfl
theorem cut_tail {zs : List Int} : (strOfNums zs).extract (zs.length - 4) zs.length = strOfNums (tailZ zs) := by
  rw [son_cut]
  unfold tailZ
  rw [List.take_of_length_le (by rw [List.length_drop]; omega)]
theorem c_unsealS_lo (zs : List Int) (w : World) (h4 : zs.length < 4) :
    Calls Tryd.prog 66 #[.string (strOfNums zs)] w fun e w' => e = .returned (.tuple #[.string ⟨#[]⟩, .bool false]) ∧ ∃ q, w' = w.drewN q := by
  obtain ⟨t, ht⟩ : ∃ t, t = strOfNums zs := ⟨_, rfl⟩
  rw [← ht]
  have hts : t.size = zs.length := by rw [ht, strOfNums_size]
  have z0 : (t.size : Int) - 4 < 0 := by omega
  have z1 : (t.size : Int) < 4 := by omega
  clear ht hts h4
  go_enter Tryd.func66, Tryd.ntmps66
  go_wp2_with fail
  go_quiet (fail)
  go_wp2
  go_ret2
  exact ⟨rfl, _, rfl⟩

end Go.Proofs.YtcokbogicbdoaaaDoor
