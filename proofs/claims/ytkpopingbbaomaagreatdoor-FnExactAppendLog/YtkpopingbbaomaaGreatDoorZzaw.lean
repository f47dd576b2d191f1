/-
  How a store that came in is read.
-/
import Derived.Test.YtkpopingbbaomaaGreatDoorYnsq
import Derived.Test.YtkpopingbbaomaaGreatDoorYnkq
import Derived.Test.YtkpopingbbaomaaGreatDoorYtcq
import Derived.Test.YtkpopingbbaomaaGreatDoorZzag
namespace Go.Proofs.YtkpopingbbaomaaGreatDoor
open Go Go.RowKit
attribute [local go_sem ↓] Go.wp_at_zero Go.wp_at_succ

theorem OwnT.srcs {w : World} {B E : Nat} {h : HD} {D : DD} {la : Option Addr} {ln lc : Nat} {Lg : List DR} {fa : Option Addr} {fn fc : Nat} {F : List FF} (o : OwnT w B E h D la ln lc Lg fa fn fc F) : HOK h ∧ (la = none → lc = 0) ∧ (fa = none → fc = 0) ∧ ∀ i, i < fn → G.SrcG (F.getD i zeroF).h := by
  have hr := o.rd
  obtain ⟨d0, d1, l0, l1, f0, f1, p1, hh, o1, o2, o3, o4, o5⟩ := o
  exact ⟨o1.src, own_src o2.1, own_src o3.1, fun i hi => (o4 i (by have := hr.2.2.1; omega)).src⟩
theorem appN_fit {ok : Bool} {D : DD} {ep : Int} {L : List DR} {su : Int} {F : List FF} {ha : Int} {r : DR} (hf : FitS D L.length L F.length F) (hb : r.b.size ≤ 1048576) (ha' : r.a.size ≤ 1048576) (hl : ok = true → L.length ≤ 60) : FitS (appN ok D ep L su F ha r).D (appN ok D ep L su F ha r).L.length (appN ok D ep L su F ha r).L (appN ok D ep L su F ha r).F.length (appN ok D ep L su F ha r).F := by
  cases ok
  · exact ⟨⟨by simp [appN, badN], by simp [appN, badN], by simp [appN, badN], by simp [appN, badN], by simp [appN, badN]⟩, ⟨by simp [appN, badN], by simp [appN, badN]⟩, by simp [appN, badN], fun i hi => absurd hi (by simp [appN, badN])⟩
  · have h6 := hl rfl
    unfold appN
    rw [if_pos rfl]
    refine ⟨hf.1, ?_, hf.2.2⟩
    dsimp only
    unfold addL
    by_cases c : L.length = 60
    · rw [if_pos c]; exact hf.2.1
    · rw [if_neg c]
      cases d : okLR ⟨ep, (L.length : Int) + 1, r.t, r.k, r.p, r.n, r.g, r.s, r.b, r.a⟩
      · rw [if_neg (by simp)]; exact hf.2.1
      · rw [if_pos rfl]
        dsimp only
        refine ⟨by simp; omega, fun v hv => ?_⟩
        rcases List.mem_append.1 hv with q | q
        · exact hf.2.1.2 v q
        · rw [List.mem_singleton] at q; subst q; exact ⟨hb, ha'⟩
theorem okST_ln {D : DD} {n0 : Nat} {ep : Int} {ln : Nat} {L : List DR} {su : Int} {fn : Nat} {F : List FF} {ha : Int} (h : okST D n0 ep ln L su fn F ha = true) : ln ≤ 60 := by
  unfold okST at h
  simp only [Bool.and_eq_true, decide_eq_true_eq] at h
  exact h.2.2.2.2.1
theorem put9_cell (V : World) (r b o : Nat) (v0 v1 v2 v3 v4 v5 v6 v7 v8 : Value) (hg : b ≠ r) : ((((((((((V.setCell ⟨r, 0, none⟩ (v0)).setCell ⟨r, 1, none⟩ (v1)).setCell ⟨r, 2, none⟩ (v2)).setCell ⟨r, 3, none⟩ (v3)).setCell ⟨r, 4, none⟩ (v4)).setCell ⟨r, 5, none⟩ (v5)).setCell ⟨r, 6, none⟩ (v6)).setCell ⟨r, 7, none⟩ (v7)).setCell ⟨r, 8, none⟩ (v8))).cell? ⟨b, o, none⟩ = V.cell? ⟨b, o, none⟩ := World.cell?_of_block (put9_same _ _ _ _ _ _ _ _ _ _ _ _ hg)
theorem zb9 {w w' : World} (hb : Below (w.alloc (.cells #[.slice none 0 0, .slice none 0 0, .bool false, .slice none 0 0, .int .i64 0, .slice none 0 0, .int .i64 0, .slice none 0 0, .int .i64 0] 46)).heap.size (w.alloc (.cells #[.slice none 0 0, .slice none 0 0, .bool false, .slice none 0 0, .int .i64 0, .slice none 0 0, .int .i64 0, .slice none 0 0, .int .i64 0] 46)) w') : Box w' w.heap.size 46 #[.slice none 0 0, .slice none 0 0, .bool false, .slice none 0 0, .int .i64 0, .slice none 0 0, .int .i64 0, .slice none 0 0, .int .i64 0] := (Box.new w #[.slice none 0 0, .slice none 0 0, .bool false, .slice none 0 0, .int .i64 0, .slice none 0 0, .int .i64 0, .slice none 0 0, .int .i64 0] 46).belowS hb
theorem zb9d {w w' : World} (hb : Below (w.alloc (.cells #[.slice none 0 0, .slice none 0 0, .bool false, .slice none 0 0, .int .i64 0, .slice none 0 0, .int .i64 0, .slice none 0 0, .int .i64 0] 46)).drew.heap.size (w.alloc (.cells #[.slice none 0 0, .slice none 0 0, .bool false, .slice none 0 0, .int .i64 0, .slice none 0 0, .int .i64 0, .slice none 0 0, .int .i64 0] 46)).drew w') : Box w' w.heap.size 46 #[.slice none 0 0, .slice none 0 0, .bool false, .slice none 0 0, .int .i64 0, .slice none 0 0, .int .i64 0, .slice none 0 0, .int .i64 0] := (show Box (w.alloc (.cells #[.slice none 0 0, .slice none 0 0, .bool false, .slice none 0 0, .int .i64 0, .slice none 0 0, .int .i64 0, .slice none 0 0, .int .i64 0] 46)).drew w.heap.size 46 #[.slice none 0 0, .slice none 0 0, .bool false, .slice none 0 0, .int .i64 0, .slice none 0 0, .int .i64 0, .slice none 0 0, .int .i64 0] from Box.new w #[.slice none 0 0, .slice none 0 0, .bool false, .slice none 0 0, .int .i64 0, .slice none 0 0, .int .i64 0, .slice none 0 0, .int .i64 0] 46).belowS hb
theorem zb9e {w w' : World} (hb : Below (w.drew.alloc (.cells #[.slice none 0 0, .slice none 0 0, .bool false, .slice none 0 0, .int .i64 0, .slice none 0 0, .int .i64 0, .slice none 0 0, .int .i64 0] 46)).heap.size (w.drew.alloc (.cells #[.slice none 0 0, .slice none 0 0, .bool false, .slice none 0 0, .int .i64 0, .slice none 0 0, .int .i64 0, .slice none 0 0, .int .i64 0] 46)) w') : Box w' w.heap.size 46 #[.slice none 0 0, .slice none 0 0, .bool false, .slice none 0 0, .int .i64 0, .slice none 0 0, .int .i64 0, .slice none 0 0, .int .i64 0] := (Box.new w.drew #[.slice none 0 0, .slice none 0 0, .bool false, .slice none 0 0, .int .i64 0, .slice none 0 0, .int .i64 0, .slice none 0 0, .int .i64 0] 46).belowS hb
theorem AnsNS.to {w w' : World} {ok : Bool} {D : DD} {ep : Int} {L : List DR} {su : Int} {F G : List FF} {ha : Int} {r : DR} {e : Ending} (s : SameF F G) (h : AnsNS w (appN ok D ep L su G ha r) e w') : AnsNS w (appN ok D ep L su F ha r) e w' := by
  cases ok
  · exact h
  · obtain ⟨⟨a, b, c, d, f, gs, q1, q2, q3⟩, q4⟩ := h
    have hl : (appN true D ep L su F ha r).F.length = (appN true D ep L su G ha r).F.length := s.len
    exact ⟨⟨a, b, c, d, f, gs, by rw [q1, hl]; rfl, (show SameF F gs from s.trans q2), fun V hz hs => by have q := q3 V hz hs; exact ⟨q.1, q.2.1, by rw [hl]; exact q.2.2⟩⟩, q4⟩
theorem AnsNI.to {w w' : World} {ok : Bool} {D : DD} {ep : Int} {L : List DR} {su : Int} {F G : List FF} {ha : Int} {r : DR} {e : Ending} (s : SameF F G) (h : AnsNI w (appN ok D ep L su G ha r) e w') : AnsNI w (appN ok D ep L su F ha r) e w' := by
  cases ok
  · exact h
  · obtain ⟨⟨a, b, c, d, f, gs, q1, q2, q3⟩, q4⟩ := h
    have hl : (appN true D ep L su F ha r).F.length = (appN true D ep L su G ha r).F.length := s.len
    exact ⟨⟨a, b, c, d, f, gs, by rw [q1, hl]; rfl, (show SameF F gs from s.trans q2), by rw [hl]; exact q3⟩, q4⟩

end Go.Proofs.YtkpopingbbaomaaGreatDoor
namespace Go.Proofs.YtkpopingbbaomaaGreatDoor
open Go Go.RowKit
attribute [local go_sem ↓] Go.wp_at_zero Go.wp_at_succ

/-- The box of an answer that says N, made since W, and what its lists read. -/
def CutN (W : World) (N : AN) (sp sc : Value) (wx : World) : Prop := ∃ (hw : HD) (lw : Option Addr) (lcw : Nat) (fw : Option Addr) (fcw : Nat) (gw : List FF) (gb : Nat), sp = .pointer (some ⟨gb, 0, none⟩) ∧ sc = .int .i64 N.c ∧ Below W.heap.size W wx ∧ W.heap.size ≤ gb ∧ SameF N.F gw ∧ (RdD wx hw N.D ∧ RdQ wx lw N.L.length N.L ∧ RdF wx fw N.F.length gw) ∧ Box wx gb 46 #[.slice hw.a0 hw.n0 hw.c0, .slice hw.a1 hw.n1 hw.c1, .bool hw.b, .slice hw.a2 hw.n2 hw.c2, .int .i64 N.ep, .slice lw N.L.length lcw, .int .i64 N.su, .slice fw N.F.length fcw, .int .i64 N.ha]
theorem cutN_new {W y : World} {N : AN} {E : Nat} {hw : HD} {lw : Option Addr} {lcw : Nat} {fw : Option Addr} {fcw : Nat} {gw : List FF} (H : Below W.heap.size W y) (sm : SameF N.F gw) (rd : ∀ V : World, y.heap.size ≤ V.heap.size → (∀ g, E ≤ g → g < y.heap.size → V.heap[g]? = y.heap[g]?) → RdD V hw N.D ∧ RdQ V lw N.L.length N.L ∧ RdF V fw N.F.length gw) : CutN W N (.pointer (some ⟨y.heap.size, 0, none⟩)) (.int .i64 N.c) (y.alloc (.cells #[.slice hw.a0 hw.n0 hw.c0, .slice hw.a1 hw.n1 hw.c1, .bool hw.b, .slice hw.a2 hw.n2 hw.c2, .int .i64 N.ep, .slice lw N.L.length lcw, .int .i64 N.su, .slice fw N.F.length fcw, .int .i64 N.ha] 46)) :=
  ⟨hw, lw, lcw, fw, fcw, gw, y.heap.size, rfl, rfl, H.alloc H.size _, H.size, sm, rd _ (by simp) (fun g _ b => Below.heap_alloc _ _ g b), Box.new _ _ _⟩
theorem cutN_put {W y : World} {N : AN} {E g : Nat} {hw : HD} {lw : Option Addr} {lcw : Nat} {fw : Option Addr} {fcw : Nat} {gw : List FF} (H : Below W.heap.size W y) (zb : Box y g 46 #[.slice none 0 0, .slice none 0 0, .bool false, .slice none 0 0, .int .i64 0, .slice none 0 0, .int .i64 0, .slice none 0 0, .int .i64 0]) (h1 : W.heap.size ≤ g) (h2 : g < E) (sm : SameF N.F gw) (rd : ∀ V : World, y.heap.size ≤ V.heap.size → (∀ g, E ≤ g → g < y.heap.size → V.heap[g]? = y.heap[g]?) → RdD V hw N.D ∧ RdQ V lw N.L.length N.L ∧ RdF V fw N.F.length gw) : CutN W N (.pointer (some ⟨g, 0, none⟩)) (.int .i64 N.c) ((((((((((y.setCell ⟨g, 0, none⟩ (.slice hw.a0 hw.n0 hw.c0)).setCell ⟨g, 1, none⟩ (.slice hw.a1 hw.n1 hw.c1)).setCell ⟨g, 2, none⟩ (.bool hw.b)).setCell ⟨g, 3, none⟩ (.slice hw.a2 hw.n2 hw.c2)).setCell ⟨g, 4, none⟩ (.int .i64 N.ep)).setCell ⟨g, 5, none⟩ (.slice lw N.L.length lcw)).setCell ⟨g, 6, none⟩ (.int .i64 N.su)).setCell ⟨g, 7, none⟩ (.slice fw N.F.length fcw)).setCell ⟨g, 8, none⟩ (.int .i64 N.ha))) :=
  ⟨hw, lw, lcw, fw, fcw, gw, g, rfl, rfl, put9_below H h1 _ _ _ _ _ _ _ _ _, h1, sm, rd _ (by simp) (fun x a b => put9_same _ _ _ _ _ _ _ _ _ _ _ _ (by omega)), put9_box zb _ _ _ _ _ _ _ _ _⟩
/-- The box of the program's answer that says N, made since W, and the memory of its lists. -/
def CutI (W : World) (N : AN) (sp sc : Value) (wx : World) : Prop := ∃ (hw : HD) (lw : Option Addr) (lcw : Nat) (fw : Option Addr) (fcw : Nat) (gw : List FF) (gb B E : Nat), sp = .pointer (some ⟨gb, 0, none⟩) ∧ sc = .int .i64 N.c ∧ Below W.heap.size W wx ∧ W.heap.size ≤ gb ∧ SameF N.F gw ∧ OwnT wx B E hw N.D lw N.L.length lcw N.L fw N.F.length fcw gw ∧ (W.heap.size ≤ B ∧ E ≤ wx.heap.size ∧ (gb < B ∨ E ≤ gb)) ∧ Box wx gb 46 #[.slice hw.a0 hw.n0 hw.c0, .slice hw.a1 hw.n1 hw.c1, .bool hw.b, .slice hw.a2 hw.n2 hw.c2, .int .i64 N.ep, .slice lw N.L.length lcw, .int .i64 N.su, .slice fw N.F.length fcw, .int .i64 N.ha]
theorem cutI_new {W y : World} {N : AN} {E : Nat} {hw : HD} {lw : Option Addr} {lcw : Nat} {fw : Option Addr} {fcw : Nat} {gw : List FF} (H : Below W.heap.size W y) (hE : W.heap.size ≤ E) (sm : SameF N.F gw) (o : OwnT y E y.heap.size hw N.D lw N.L.length lcw N.L fw N.F.length fcw gw) : CutI W N (.pointer (some ⟨y.heap.size, 0, none⟩)) (.int .i64 N.c) (y.alloc (.cells #[.slice hw.a0 hw.n0 hw.c0, .slice hw.a1 hw.n1 hw.c1, .bool hw.b, .slice hw.a2 hw.n2 hw.c2, .int .i64 N.ep, .slice lw N.L.length lcw, .int .i64 N.su, .slice fw N.F.length fcw, .int .i64 N.ha] 46)) :=
  ⟨hw, lw, lcw, fw, fcw, gw, y.heap.size, E, y.heap.size, rfl, rfl, H.alloc H.size _, H.size, sm, o.below ((Below.refl _ _).alloc (Nat.le_refl _) _), ⟨hE, by simp, .inr (Nat.le_refl _)⟩, Box.new _ _ _⟩
theorem cutI_put {W y : World} {N : AN} {E g : Nat} {hw : HD} {lw : Option Addr} {lcw : Nat} {fw : Option Addr} {fcw : Nat} {gw : List FF} (H : Below W.heap.size W y) (zb : Box y g 46 #[.slice none 0 0, .slice none 0 0, .bool false, .slice none 0 0, .int .i64 0, .slice none 0 0, .int .i64 0, .slice none 0 0, .int .i64 0]) (h1 : W.heap.size ≤ g) (h2 : g < E) (hE : W.heap.size ≤ E) (sm : SameF N.F gw) (o : OwnT y E y.heap.size hw N.D lw N.L.length lcw N.L fw N.F.length fcw gw) : CutI W N (.pointer (some ⟨g, 0, none⟩)) (.int .i64 N.c) ((((((((((y.setCell ⟨g, 0, none⟩ (.slice hw.a0 hw.n0 hw.c0)).setCell ⟨g, 1, none⟩ (.slice hw.a1 hw.n1 hw.c1)).setCell ⟨g, 2, none⟩ (.bool hw.b)).setCell ⟨g, 3, none⟩ (.slice hw.a2 hw.n2 hw.c2)).setCell ⟨g, 4, none⟩ (.int .i64 N.ep)).setCell ⟨g, 5, none⟩ (.slice lw N.L.length lcw)).setCell ⟨g, 6, none⟩ (.int .i64 N.su)).setCell ⟨g, 7, none⟩ (.slice fw N.F.length fcw)).setCell ⟨g, 8, none⟩ (.int .i64 N.ha))) :=
  ⟨hw, lw, lcw, fw, fcw, gw, g, E, y.heap.size, rfl, rfl, put9_below H h1 _ _ _ _ _ _ _ _ _, h1, sm, o.same (by simp) (fun x a b => put9_same _ _ _ _ _ _ _ _ _ _ _ _ (by omega)), ⟨hE, by simp, .inl h2⟩, put9_box zb _ _ _ _ _ _ _ _ _⟩

end Go.Proofs.YtkpopingbbaomaaGreatDoor
namespace Go.Proofs.YtkpopingbbaomaaGreatDoor
open Go Go.RowKit Go.ChangeShapes Go.WideShapes Go.Deep Go.WideElems

theorem array9 {α : Type} {cs : Array α} (h : cs.size = 9) : ∃ c0 c1 c2 c3 c4 c5 c6 c7 c8, cs = #[c0, c1, c2, c3, c4, c5, c6, c7, c8] := by
  obtain ⟨l⟩ := cs
  match l, h with
  | [c0, c1, c2, c3, c4, c5, c6, c7, c8], _ => exact ⟨c0, c1, c2, c3, c4, c5, c6, c7, c8, rfl⟩
theorem cells3y : Tryz.prog.cellsOf 3 = 1 := by kernel_rfl
theorem cells4i : Tryz.prog.cellsOf 4 = 1 := by kernel_rfl
theorem cells9y : Tryz.prog.cellsOf 9 = 1 := by kernel_rfl
theorem cellsSS : Tryz.prog.cellsOf 22 = 1 := by kernel_rfl
theorem cellsSI : Tryz.prog.cellsOf 24 = 1 := by kernel_rfl
theorem cellsSP : Tryz.prog.cellsOf 23 = 1 := by kernel_rfl
theorem cellsSR : Tryz.prog.cellsOf 27 = 1 := by kernel_rfl
theorem cellsSF : Tryz.prog.cellsOf 28 = 1 := by kernel_rfl
theorem cellsPG : Tryz.prog.cellsOf 217 = 2 := by kernel_rfl
theorem cellsLD : Tryz.prog.cellsOf 26 = 4 := by kernel_rfl
theorem cellsLR : Tryz.prog.cellsOf 72 = 10 := by kernel_rfl
theorem cellsLF : Tryz.prog.cellsOf 219 = 5 := by kernel_rfl
set_option maxRecDepth 100000 in
theorem texts_of {H : Type} {enc : TypeId × Value → H} {w : World} {held : Bool} {fuel : Nat} {cs : List Value} {x : DataW H × List MemPlace} (h : DataW.trod enc Tryz.prog w 0 (fun _ => true) held fuel 22 cs = some x) :
    ∃ a n c, ∃ ss : List ByteArray, cs = [.slice a n c] ∧ RdV w a n (ss.map Value.string) ∧ n ≤ maxLen ∧ ∀ s ∈ ss, s.size ≤ maxLen := by
  rcases open_strings Tryz.underlying22 Tryz.underlying9 (by kernel_rfl) h with ⟨hcs, _⟩ | ⟨x, l, c, ss, hcs, _, hl, hm, hz, _, hcell, hwz⟩
  · exact ⟨none, 0, 0, [], hcs, ⟨rfl, fun h => absurd h (by omega)⟩, by unfold maxLen; omega, fun _ h => by cases h⟩
  · exact ⟨some x, l, c, _, hcs, rdV_of_row Value.string _ hl (by simpa using hz) hcell, by omega, fun s h => hwz s (List.mem_of_mem_take h)⟩
set_option maxRecDepth 100000 in
theorem numbers_of {H : Type} {enc : TypeId × Value → H} {w : World} {held : Bool} {fuel : Nat} {cs : List Value} {x : DataW H × List MemPlace} (h : DataW.trod enc Tryz.prog w 0 (fun _ => true) held fuel 24 cs = some x) :
    ∃ a n c, ∃ zs : List Int, cs = [.slice a n c] ∧ RdV w a n (zs.map (Value.int .i64)) ∧ n ≤ maxLen := by
  rcases open_ints Tryz.underlying24 Tryz.underlying3 (by kernel_rfl) h with ⟨hcs, _⟩ | ⟨x, l, c, zs, hcs, _, hl, hm, hz, _, hcell, hwz⟩
  · exact ⟨none, 0, 0, [], hcs, ⟨rfl, fun h => absurd h (by omega)⟩, by unfold maxLen; omega⟩
  · exact ⟨some x, l, c, _, hcs, rdV_of_row (Value.int .i64) _ hl (by simpa using hz) hcell, by omega⟩
set_option maxRecDepth 100000 in
theorem pendings_of {H : Type} {enc : TypeId × Value → H} {w : World} {held : Bool} {fuel : Nat} {cs : List Value} {x : DataW H × List MemPlace} (h : DataW.trod enc Tryz.prog w 0 (fun _ => true) held fuel 23 cs = some x) :
    ∃ a n c, ∃ vs : List PP, cs = [.slice a n c] ∧ RdP w a n vs ∧ n ≤ maxLen ∧ ∀ p ∈ vs, p.2.size ≤ maxLen := by
  rcases open_pendings Tryz.underlying23 Tryz.underlying289 (by kernel_rfl) (by kernel_rfl) Tryz.underlying3 Tryz.underlying9 h with hcs | ⟨x, l, c, vs, hcs, hm, hr, hz⟩
  · exact ⟨none, 0, 0, [], hcs, ⟨rfl, fun h => absurd h (by omega)⟩, by unfold maxLen; omega, fun _ h => by cases h⟩
  · exact ⟨some x, l, c, vs, hcs, hr, hm, hz⟩
set_option maxRecDepth 100000 in
theorem disk_of {H : Type} {enc : TypeId × Value → H} {w : World} {held : Bool} {fuel : Nat} {c0 c1 c2 c3 : Value} {x : DataW H × List MemPlace} (h : DataW.trod enc Tryz.prog w 0 (fun _ => true) held fuel 26 [c0, c1, c2, c3] = some x) :
    ∃ (h : HD) (D : DD), c0 = .slice h.a0 h.n0 h.c0 ∧ c1 = .slice h.a1 h.n1 h.c1 ∧ c2 = .bool h.b ∧ c3 = .slice h.a2 h.n2 h.c2 ∧ RdD w h D ∧ h.n0 ≤ maxLen ∧ h.n1 ≤ maxLen ∧ h.n2 ≤ maxLen ∧ (∀ s ∈ D.S, s.size ≤ maxLen) ∧ ∀ p ∈ D.C, p.2.size ≤ maxLen := by
  obtain ⟨xs, n, _, _, _, hlen, hff⟩ := DataW.trod_struct Tryz.underlying26 h
  have g : ∀ i, i < 4 → ∃ y, xs[i]? = some y := fun i hi => ⟨_, List.getElem?_eq_getElem (by rw [hlen]; exact hi)⟩
  obtain ⟨y0, hy0⟩ := g 0 (by omega)
  obtain ⟨y1, hy1⟩ := g 1 (by omega)
  obtain ⟨y2, hy2⟩ := g 2 (by omega)
  obtain ⟨y3, hy3⟩ := g 3 (by omega)
  obtain ⟨a0, n0, k0, ss, e0, r0, m0, s0⟩ := texts_of ((hff 0 _ rfl).trans hy0)
  obtain ⟨a1, n1, k1, vs, e1, r1, m1, s1⟩ := pendings_of ((hff 1 _ rfl).trans hy1)
  obtain ⟨b, e2, _⟩ := DataW.trod_bool Tryz.underlying4 ((hff 2 _ rfl).trans hy2)
  obtain ⟨a2, n2, k2, zs, e3, r2, m2⟩ := numbers_of ((hff 3 _ rfl).trans hy3)
  simp [cells4i, cellsSS, cellsSI, cellsSP] at e0 e1 e2 e3
  exact ⟨⟨a0, n0, k0, a1, n1, k1, b, a2, n2, k2⟩, ⟨ss, vs, b, zs⟩, e0, e1, e2, e3, ⟨rfl, r0, r1, r2⟩, m0, m1, m2, s0, s1⟩
set_option maxRecDepth 100000 in
theorem recs_of {H : Type} {enc : TypeId × Value → H} {w : World} {held : Bool} {fuel : Nat} {cs : List Value} {x : DataW H × List MemPlace} (h : DataW.trod enc Tryz.prog w 0 (fun _ => true) held fuel 27 cs = some x) :
    ∃ a n c, ∃ vs : List DR, cs = [.slice a n c] ∧ RdQ w a n vs ∧ n ≤ maxLen ∧ ∀ v ∈ vs, v.b.size ≤ maxLen ∧ v.a.size ≤ maxLen := by
  rcases Go.Deep.open_slice Tryz.underlying27 h with ⟨h0, _⟩ | ⟨a, len, cap, m, n, D, Pl, hcs, hb, hl, hm, he, hx, hc⟩
  · exact ⟨none, 0, 0, [], h0, ⟨rfl, fun h => absurd h (by omega)⟩, by unfold maxLen; omega, fun _ h => by cases h⟩
  · have hlm : len ≤ m := by rw [he]; split <;> omega
    have hone' : ∀ i, i < len → ∃ v : DR, (∀ j, j < 10 → w.cell? (a.add (i * 10 + j)) = (cQ v)[j]?) ∧ v.b.size ≤ maxLen ∧ v.a.size ≤ maxLen := by
      intro i hi
      obtain ⟨cs', h1, h2⟩ := hc i (by omega)
      rw [cellsLR] at h1
      obtain ⟨_, hl3, hg⟩ := World.cells?_some h1
      obtain ⟨xs, n', _, _, _, hlen, hff⟩ := DataW.trod_struct Tryz.underlying72 h2
      have g : ∀ i, i < 10 → ∃ y, xs[i]? = some y := fun i hi => ⟨_, List.getElem?_eq_getElem (by rw [hlen]; exact hi)⟩
      match cs', hl3 with
      | [c0, c1, c2, c3, c4, c5, c6, c7, c8, c9], _ =>
        obtain ⟨y0, hy0⟩ := g 0 (by omega)
        obtain ⟨y1, hy1⟩ := g 1 (by omega)
        obtain ⟨y2, hy2⟩ := g 2 (by omega)
        obtain ⟨y3, hy3⟩ := g 3 (by omega)
        obtain ⟨y4, hy4⟩ := g 4 (by omega)
        obtain ⟨y5, hy5⟩ := g 5 (by omega)
        obtain ⟨y6, hy6⟩ := g 6 (by omega)
        obtain ⟨y7, hy7⟩ := g 7 (by omega)
        obtain ⟨y8, hy8⟩ := g 8 (by omega)
        obtain ⟨y9, hy9⟩ := g 9 (by omega)
        obtain ⟨k0, e0, _, _⟩ := DataW.trod_int Tryz.underlying3 ((hff 0 _ rfl).trans hy0)
        obtain ⟨k1, e1, _, _⟩ := DataW.trod_int Tryz.underlying3 ((hff 1 _ rfl).trans hy1)
        obtain ⟨k2, e2, _, _⟩ := DataW.trod_int Tryz.underlying3 ((hff 2 _ rfl).trans hy2)
        obtain ⟨k3, e3, _, _⟩ := DataW.trod_int Tryz.underlying3 ((hff 3 _ rfl).trans hy3)
        obtain ⟨k4, e4, _, _⟩ := DataW.trod_int Tryz.underlying3 ((hff 4 _ rfl).trans hy4)
        obtain ⟨k5, e5, _, _⟩ := DataW.trod_int Tryz.underlying3 ((hff 5 _ rfl).trans hy5)
        obtain ⟨k6, e6, _, _⟩ := DataW.trod_int Tryz.underlying3 ((hff 6 _ rfl).trans hy6)
        obtain ⟨k7, e7, _, _⟩ := DataW.trod_int Tryz.underlying3 ((hff 7 _ rfl).trans hy7)
        obtain ⟨k8, e8, _, m8⟩ := DataW.trod_string Tryz.underlying9 ((hff 8 _ rfl).trans hy8)
        obtain ⟨k9, e9, _, m9⟩ := DataW.trod_string Tryz.underlying9 ((hff 9 _ rfl).trans hy9)
        simp [cells3y, cells9y] at e0 e1 e2 e3 e4 e5 e6 e7 e8 e9
        subst e0 e1 e2 e3 e4 e5 e6 e7 e8 e9
        have q0 := hg 0 (by omega)
        have q1 := hg 1 (by omega)
        have q2 := hg 2 (by omega)
        have q3 := hg 3 (by omega)
        have q4 := hg 4 (by omega)
        have q5 := hg 5 (by omega)
        have q6 := hg 6 (by omega)
        have q7 := hg 7 (by omega)
        have q8 := hg 8 (by omega)
        have q9 := hg 9 (by omega)
        rw [Go.Deep.add_add] at q0 q1 q2 q3 q4 q5 q6 q7 q8 q9
        refine ⟨⟨k0, k1, k2, k3, k4, k5, k6, k7, k8, k9⟩, fun j hj => ?_, m8, m9⟩
        match j, hj with
        | 0, _ => exact q0
        | 1, _ => exact q1
        | 2, _ => exact q2
        | 3, _ => exact q3
        | 4, _ => exact q4
        | 5, _ => exact q5
        | 6, _ => exact q6
        | 7, _ => exact q7
        | 8, _ => exact q8
        | 9, _ => exact q9
    haveI : Inhabited DR := ⟨zeroR⟩
    obtain ⟨f, hf⟩ := Go.Deep.choose_lt (α := DR) hone'
    refine ⟨some a, len, cap, (List.range len).map f, hcs, ⟨by simp, fun hpos => ?_⟩, by omega, ?_⟩
    · obtain ⟨b, off, spot⟩ := a
      have hc0 := (hf 0 hpos).1 0 (by omega)
      have hspot : spot = none := by simpa [Addr.add] using World.cell?_spot hc0
      subst hspot
      refine ⟨b, off, rfl, World.block_lt_of_cell? w ⟨b, off, none⟩ (by have := hc0; rwa [addr_add, show off + (0 * 10 + 0) = off by omega] at this), fun i hi j hj => ?_⟩
      have hg := (hf i hi).1 j hj
      rw [addr_add, show off + (i * 10 + j) = off + i * 10 + j by omega] at hg
      have hd : ((List.range len).map f).getD i zeroR = f i := by rw [List.getD_eq_getElem?_getD, List.getElem?_map, List.getElem?_range hi]; rfl
      rw [hd]
      exact hg
    · intro v hv
      obtain ⟨i, hi, rfl⟩ := List.mem_map.1 hv
      exact (hf i (List.mem_range.1 hi)).2
set_option maxRecDepth 100000 in
theorem page_of {H : Type} {enc : TypeId × Value → H} {w : World} {held : Bool} {fuel : Nat} {cs : List Value} {x : DataW H × List MemPlace} (h : DataW.trod enc Tryz.prog w 0 (fun _ => true) held fuel 217 cs = some x) (hl : cs.length = 2) :
    ∃ (p : G.HG) (D : G.DG), cs = [.int .i64 p.l, .slice p.a p.n p.c] ∧ G.RdG w p D ∧ p.n ≤ maxLen ∧ ∀ s ∈ D.S, s.size ≤ maxLen := by
  obtain ⟨xs, n, _, _, _, hlen, hff⟩ := DataW.trod_struct Tryz.underlying217 h
  have g : ∀ i, i < 2 → ∃ y, xs[i]? = some y := fun i hi => ⟨_, List.getElem?_eq_getElem (by rw [hlen]; exact hi)⟩
  match cs, hl with
  | [c0, c1], _ =>
    obtain ⟨y0, hy0⟩ := g 0 (by omega)
    obtain ⟨y1, hy1⟩ := g 1 (by omega)
    obtain ⟨k0, e0, _, _⟩ := DataW.trod_int Tryz.underlying3 ((hff 0 _ rfl).trans hy0)
    obtain ⟨a1, n1, k1, ss, e1, r1, m1, s1⟩ := texts_of ((hff 1 _ rfl).trans hy1)
    simp [cells3y, cellsSS] at e0 e1
    subst e0 e1
    exact ⟨⟨k0, a1, n1, k1⟩, ⟨k0, ss⟩, rfl, ⟨rfl, r1⟩, m1, s1⟩
set_option maxRecDepth 100000 in
theorem frames_of {H : Type} {enc : TypeId × Value → H} {w : World} {held : Bool} {fuel : Nat} {cs : List Value} {x : DataW H × List MemPlace} (h : DataW.trod enc Tryz.prog w 0 (fun _ => true) held fuel 28 cs = some x) :
    ∃ a n c, ∃ fs : List FF, cs = [.slice a n c] ∧ RdF w a n fs ∧ n ≤ maxLen ∧ ∀ i, i < n → (fs.getD i zeroF).h.n ≤ maxLen ∧ ∀ s ∈ (fs.getD i zeroF).D.S, s.size ≤ maxLen := by
  rcases Go.Deep.open_slice Tryz.underlying28 h with ⟨h0, _⟩ | ⟨a, len, cap, m, n, D, Pl, hcs, hb, hl, hm, he, hx, hc⟩
  · exact ⟨none, 0, 0, [], h0, ⟨rfl, fun h => absurd h (by omega), fun i h => absurd h (by omega)⟩, by unfold maxLen; omega, fun i h => absurd h (by omega)⟩
  · have hlm : len ≤ m := by rw [he]; split <;> omega
    have hone' : ∀ i, i < len → ∃ v : FF, (∀ j, j < 5 → w.cell? (a.add (i * 5 + j)) = (cF v)[j]?) ∧ G.RdG w v.h v.D ∧ v.h.n ≤ maxLen ∧ ∀ s ∈ v.D.S, s.size ≤ maxLen := by
      intro i hi
      obtain ⟨cs', h1, h2⟩ := hc i (by omega)
      rw [cellsLF] at h1
      obtain ⟨_, hl3, hg⟩ := World.cells?_some h1
      obtain ⟨xs, n', _, _, _, hlen, hff⟩ := DataW.trod_struct Tryz.underlying219 h2
      have g : ∀ i, i < 4 → ∃ y, xs[i]? = some y := fun i hi => ⟨_, List.getElem?_eq_getElem (by rw [hlen]; exact hi)⟩
      match cs', hl3 with
      | [c0, c1, c2, c3, c4], _ =>
        obtain ⟨y0, hy0⟩ := g 0 (by omega)
        obtain ⟨y1, hy1⟩ := g 1 (by omega)
        obtain ⟨y2, hy2⟩ := g 2 (by omega)
        obtain ⟨y3, hy3⟩ := g 3 (by omega)
        obtain ⟨k0, e0, _, _⟩ := DataW.trod_int Tryz.underlying3 ((hff 0 _ rfl).trans hy0)
        obtain ⟨pg, DG, e1, rg, mg, sg⟩ := page_of ((hff 1 _ rfl).trans hy1) (by simp [cellsPG])
        obtain ⟨b, e2, _⟩ := DataW.trod_bool Tryz.underlying4 ((hff 2 _ rfl).trans hy2)
        obtain ⟨k3, e3, _, _⟩ := DataW.trod_int Tryz.underlying3 ((hff 3 _ rfl).trans hy3)
        simp [cells3y, cells4i, cellsPG] at e0 e1 e2 e3
        obtain ⟨e1a, e1b⟩ := e1
        subst e0 e1a e1b e2 e3
        have q0 := hg 0 (by omega)
        have q1 := hg 1 (by omega)
        have q2 := hg 2 (by omega)
        have q3 := hg 3 (by omega)
        have q4 := hg 4 (by omega)
        rw [Go.Deep.add_add] at q0 q1 q2 q3 q4
        refine ⟨⟨k0, pg, DG, b, k3⟩, fun j hj => ?_, rg, mg, sg⟩
        match j, hj with
        | 0, _ => exact q0
        | 1, _ => exact q1
        | 2, _ => exact q2
        | 3, _ => exact q3
        | 4, _ => exact q4
    haveI : Inhabited FF := ⟨zeroF⟩
    obtain ⟨f, hf⟩ := Go.Deep.choose_lt (α := FF) hone'
    have hd : ∀ i, i < len → ((List.range len).map f).getD i zeroF = f i := fun i hi => by rw [List.getD_eq_getElem?_getD, List.getElem?_map, List.getElem?_range hi]; rfl
    refine ⟨some a, len, cap, (List.range len).map f, hcs, ⟨by simp, fun hpos => ?_, fun i hi => by rw [hd i hi]; exact (hf i hi).2.1⟩, by omega, fun i hi => by rw [hd i hi]; exact (hf i hi).2.2⟩
    obtain ⟨b, off, spot⟩ := a
    have hc0 := (hf 0 hpos).1 0 (by omega)
    have hspot : spot = none := by simpa [Addr.add] using World.cell?_spot hc0
    subst hspot
    refine ⟨b, off, rfl, World.block_lt_of_cell? w ⟨b, off, none⟩ (by have := hc0; rwa [addr_add, show off + (0 * 5 + 0) = off by omega] at this), fun i hi => ?_⟩
    have hg := fun j hj => (hf i hi).1 j hj
    simp only [addr_add] at hg
    have hg' : ∀ j, j < 5 → w.cell? ⟨b, off + i * 5 + j, none⟩ = (cF (f i))[j]? := fun j hj => by rw [show off + i * 5 + j = off + (i * 5 + j) by omega]; exact hg j hj
    rw [hd i hi]
    exact ⟨hg' 0 (by omega), hg' 1 (by omega), hg' 2 (by omega), hg' 3 (by omega), hg' 4 (by omega)⟩
set_option maxRecDepth 100000 in
theorem open_store {H : Type} {enc : TypeId × Value → H} {w : World} {held : Bool} {r : Reach} {b0 : Nat} {v : Value} {d : DataW H} {p : List MemPlace} (hv : Value.okWide Tryz.prog w r b0 30 v) (h : DataW.Trod enc Tryz.prog w 0 (fun _ => true) held 30 v d p) :
    ∃ (h : HD) (D : DD) (ep : Int) (la : Option Addr) (ln lc : Nat) (L : List DR) (su : Int) (fa : Option Addr) (fn fc : Nat) (F : List FF) (ha : Int), v = .agg #[.slice h.a0 h.n0 h.c0, .slice h.a1 h.n1 h.c1, .bool h.b, .slice h.a2 h.n2 h.c2, .int .i64 ep, .slice la ln lc, .int .i64 su, .slice fa fn fc, .int .i64 ha] ∧ RdD w h D ∧ (h.n0 ≤ maxLen ∧ h.n1 ≤ maxLen ∧ h.n2 ≤ maxLen ∧ (∀ s ∈ D.S, s.size ≤ maxLen) ∧ ∀ p ∈ D.C, p.2.size ≤ maxLen) ∧ RdQ w la ln L ∧ ln ≤ maxLen ∧ (∀ v ∈ L, v.b.size ≤ maxLen ∧ v.a.size ≤ maxLen) ∧ RdF w fa fn F ∧ fn ≤ maxLen ∧ ∀ i, i < fn → (F.getD i zeroF).h.n ≤ maxLen ∧ ∀ s ∈ (F.getD i zeroF).D.S, s.size ≤ maxLen := by
  obtain ⟨cs, rfl, hsz⟩ := okWide_struct Tryz.underlying30 hv
  obtain ⟨c0, c1, c2, c3, c4, c5, c6, c7, c8, rfl⟩ := array9 (hsz.trans (by kernel_rfl))
  obtain ⟨fuel, hf⟩ := h
  obtain ⟨xs, n, _, _, _, hlen, hff⟩ := DataW.trod_struct Tryz.underlying30 hf
  have g : ∀ i, i < 6 → ∃ y, xs[i]? = some y := fun i hi => ⟨_, List.getElem?_eq_getElem (by rw [hlen]; exact hi)⟩
  obtain ⟨y0, hy0⟩ := g 0 (by omega)
  obtain ⟨y1, hy1⟩ := g 1 (by omega)
  obtain ⟨y2, hy2⟩ := g 2 (by omega)
  obtain ⟨y3, hy3⟩ := g 3 (by omega)
  obtain ⟨y4, hy4⟩ := g 4 (by omega)
  obtain ⟨y5, hy5⟩ := g 5 (by omega)
  have q0 := (hff 0 _ rfl).trans hy0
  obtain ⟨ep, e1, _, _⟩ := DataW.trod_int Tryz.underlying3 ((hff 1 _ rfl).trans hy1)
  obtain ⟨la, ln, lc, L, e2, r2, m2, s2⟩ := recs_of ((hff 2 _ rfl).trans hy2)
  obtain ⟨su, e3, _, _⟩ := DataW.trod_int Tryz.underlying3 ((hff 3 _ rfl).trans hy3)
  obtain ⟨fa, fn, fc, F, e4, r4, m4, s4⟩ := frames_of ((hff 4 _ rfl).trans hy4)
  obtain ⟨ha, e5, _, _⟩ := DataW.trod_int Tryz.underlying3 ((hff 5 _ rfl).trans hy5)
  simp [Value.cells, cells3y, cellsSR, cellsSF, cellsLD] at e1 e2 e3 e4 e5 q0
  subst e1 e2 e3 e4 e5
  obtain ⟨h, D, rfl, rfl, rfl, rfl, rd, mm⟩ := disk_of q0
  exact ⟨h, D, ep, la, ln, lc, L, su, fa, fn, fc, F, ha, rfl, rd, mm, r2, m2, s2, r4, m4, s4⟩

end Go.Proofs.YtkpopingbbaomaaGreatDoor
