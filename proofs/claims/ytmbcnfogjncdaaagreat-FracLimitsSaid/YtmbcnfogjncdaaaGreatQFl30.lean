/- A part of the proofs about fractions. -/
import Derived.Test.YtmbcnfogjncdaaaGreatQFl14
import Derived.Test.YtmbcnfogjncdaaaGreatQFl22
import Derived.Test.YtmbcnfogjncdaaaGreatQFl27
import Derived.Test.YtmbcnfogjncdaaaGreatQFl29
set_option maxRecDepth 100000
set_option maxHeartbeats 1000000
namespace Go.Proofs.YtmbcnfogjncdaaaGreat
open Go.RowKit Wh
theorem ref2Same_zero (w : World) : Calls Tryz.prog 29 #[.agg #[.bool false, .slice none 0 0, .bool false, .slice none 0 0], .agg #[.bool false, .slice none 0 0, .bool false, .slice none 0 0]] w fun e w' => e = .returned (.bool true) ∧ Below w.heap.size w w' :=
 ref2Same_raw false none 0 0 false none 0 0 false none 0 0 false none 0 0 [] [] [] [] w (Lim.nil w) (Lim.nil w) (Lim.nil w) (Lim.nil w)
def AnsF (W : World) (t : Option Rat) (cd : Int) (v : Value) (c : Int) : Prop := (∃ z, t = some z ∧ c = 0 ∧ Fra W v z) ∨ (t = none ∧ c = cd ∧ v = .agg #[.bool false, .slice none 0 0, .bool false, .slice none 0 0])
theorem AnsF.below {W W' : World} {t : Option Rat} {cd c : Int} {v : Value} {n : Nat} (h : AnsF W t cd v c) (hb : Below n W W') (hn : W.heap.size ≤ n) : AnsF W' t cd v c := by
 rcases h with ⟨z, h1, h2, h3⟩ | h
 · exact .inl ⟨z, h1, h2, h3.below hb hn⟩
 · exact .inr h
theorem AnsF.on {W W' : World} {t : Option Rat} {cd c : Int} {v : Value} (h : AnsF W t cd v c) (hb : Below W.heap.size W W') : AnsF W' t cd v c := h.below hb (Nat.le_refl _)
theorem AnsF.opened {W : World} {t : Option Rat} {cd c : Int} {v : Value} (h : AnsF W t cd v c) : ∃ b a k e b' a' k' e', v = .agg #[.bool b, .slice a k e, .bool b', .slice a' k' e'] := by
 rcases h with ⟨z, -, -, h3⟩ | ⟨-, -, h⟩
 · exact h3.opened
 · exact ⟨_, _, _, _, _, _, _, _, h⟩
theorem law2same_true (bx : Bool) (ax : Option Addr) (kx cx : Nat) (dx : Bool) (ex : Option Addr) (lx mx : Nat) (bv : Bool) (av : Option Addr) (kv cv : Nat) (dv : Bool) (ev : Option Addr) (lv mv : Nat) (c : Int) (w : World) (hs : ∀ W, Below w.heap.size w W → Calls Tryz.prog 29 #[.agg #[.bool bx, .slice ax kx cx, .bool dx, .slice ex lx mx], .agg #[.bool bv, .slice av kv cv, .bool dv, .slice ev lv mv]] W fun e w' => e = .returned (.bool true) ∧ Below W.heap.size W w') :
  Calls Tryz.prog 28 #[.agg #[.bool bx, .slice ax kx cx, .bool dx, .slice ex lx mx], .int .i64 c, .agg #[.bool bv, .slice av kv cv, .bool dv, .slice ev lv mv], .int .i64 c] w fun e w' => e = .returned (.bool true) ∧ Below w.heap.size w w' := by
 have HS := Lib.hid hs
 clear hs
 have hB := Below.refl w.heap.size w
 obtain ⟨al, xx, hN⟩ := mk hB #[.bool bx, .slice ax kx cx, .bool dx, .slice ex lx mx] 39
 replace hB := hN; clear al hN
 try simp only [World.size_alloc] at xx
 obtain ⟨al, xv, hN⟩ := mk hB #[.bool bv, .slice av kv cv, .bool dv, .slice ev lv mv] 39
 replace xx := xx.on al; replace hB := hN; clear al hN
 try simp only [World.size_alloc] at xv
 go_enter Tryz.func28, Tryz.ntmps28
 have px := xx.all4
 have pv := xv.all4
 have ltx := xx.lt
 have ltv := xv.lt
 go_wp2_with fail
 clear ltx ltv px pv
 refine (HS.out _ hB).mono ?_
 rintro e w1 ⟨rfl, hb⟩
 replace xx := xx.on hb; replace xv := xv.on hb
 have hz1 := hb.size
 try simp at hz1
 replace hB := hB.trans (hb.mono hB.size); clear hb
 go_wp2
 go_ret
 exact ⟨rfl, hB⟩
theorem same_ans (va vb : Value) (t : Option Rat) (cd c d : Int) (w : World) (h : AnsF w t cd va c) (g : AnsF w t cd vb d) : Calls Tryz.prog 28 #[va, .int .i64 c, vb, .int .i64 d] w fun e w' => e = .returned (.bool true) ∧ Below w.heap.size w w' := by
  obtain ⟨b1, x1, k1, c1, d1, e1, l1, m1, rfl⟩ := h.opened
  obtain ⟨b2, x2, k2, c2, d2, e2, l2, m2, rfl⟩ := g.opened
  rcases h with ⟨z, rfl, rfl, h⟩ | ⟨rfl, rfl, h⟩ <;> rcases g with ⟨y, gt, rfl, g⟩ | ⟨gt, rfl, g⟩
  · cases gt
    exact law2same_true b1 x1 k1 c1 d1 e1 l1 m1 b2 x2 k2 c2 d2 e2 l2 m2 0 w (fun W hW => ref2Same_lit _ _ z z true (decide_eq_true rfl) W (h.below hW (Nat.le_refl _)) (g.below hW (Nat.le_refl _)))
  · cases gt
  · cases gt
  · rw [h, g]
    exact law2same_true _ _ _ _ _ _ _ _ _ _ _ _ _ _ _ _ _ w (fun W _ => ref2Same_zero W)
end Go.Proofs.YtmbcnfogjncdaaaGreat
