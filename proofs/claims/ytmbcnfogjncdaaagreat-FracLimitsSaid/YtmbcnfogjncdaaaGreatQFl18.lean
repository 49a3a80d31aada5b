/- A part of the proofs about fractions. -/
import Derived.Deep.DeepCutAuto
import Derived.Lib.BitFns
import Derived.RegionTactic
import Derived.Shelf.Strconv.Itoa0
import Derived.Shelf.Strings.Cut
import Derived.Shelf.Strings.Prefix
import Derived.Shelf.Strings.Search1
import Derived.Shelf.Strings.Search2
import Derived.Test.YtmbcnfogjncdaaaGreatProg
import Derived.Test.YtmbcnfogjncdaaaGreatQFl1
import Derived.Test.YtmbcnfogjncdaaaGreatQFl14
import Derived.Test.YtmbcnfogjncdaaaGreatQFl17
set_option maxRecDepth 100000
set_option maxHeartbeats 4000000
namespace Go.Proofs.YtmbcnfogjncdaaaGreat
open Go.RowKit Wh
theorem fra_same (p q : Rat) : (decide (decide (p.num < 0) = decide (q.num < 0) ∧ dig p.num.natAbs = dig q.num.natAbs) && decide (false = false ∧ dig p.den = dig q.den)) = decide (p = q) := by
  have hn : (decide (p.num < 0) = decide (q.num < 0) ∧ dig p.num.natAbs = dig q.num.natAbs) ↔ p.num = q.num := by
    constructor
    · rintro ⟨h1, h2⟩
      have h3 : p.num.natAbs = q.num.natAbs := by rw [← val_dig p.num.natAbs, h2, val_dig]
      rw [decide_eq_decide] at h1
      omega
    · intro h; rw [h]; exact ⟨rfl, rfl⟩
  have hd : (false = false ∧ dig p.den = dig q.den) ↔ p.den = q.den := by
    constructor
    · rintro ⟨-, h2⟩; rw [← val_dig p.den, h2, val_dig]
    · intro h; rw [h]; exact ⟨rfl, rfl⟩
  rw [← Bool.decide_and, decide_eq_decide, hn, hd]
  constructor
  · rintro ⟨h1, h2⟩; exact Fq.ext h1 h2
  · intro h; rw [h]; exact ⟨rfl, rfl⟩
theorem ref2Same_t (bx : Bool) (ax : Option Addr) (kx cx : Nat) (dx : Bool) (ex : Option Addr) (lx mx : Nat) (bY : Bool) (ay : Option Addr) (ky cy : Nat) (dy : Bool) (ey : Option Addr) (ly my : Nat) (l1 l1d l2 l2d : List Nat) (hv : decide (bx = bY ∧ l1 = l2) = true) (w : World) (i1 : Lim w (.slice ax kx cx) l1) (i1d : Lim w (.slice ex lx mx) l1d) (i2 : Lim w (.slice ay ky cy) l2) (i2d : Lim w (.slice ey ly my) l2d) :
  Calls Tryz.prog 29 #[.agg #[.bool bx, .slice ax kx cx, .bool dx, .slice ex lx mx], .agg #[.bool bY, .slice ay ky cy, .bool dy, .slice ey ly my]] w fun e w' => e = .returned (.bool (decide (dx = dy ∧ l1d = l2d))) ∧ Below w.heap.size w w' := by
 have h1 := fun W (hW : Below w.heap.size w W) => refSame_any bx _ l1 bY _ l2 W (i1.below hW (Nat.le_refl _)) (i2.below hW (Nat.le_refl _))
 rw [hv] at h1
 have H1 := Lib.hid h1
 have H2 := Lib.hid (fun W (hW : Below w.heap.size w W) => refSame_any dx _ l1d dy _ l2d W (i1d.below hW (Nat.le_refl _)) (i2d.below hW (Nat.le_refl _)))
 clear h1 hv i1 i2 i1d i2d
 have hB := Below.refl w.heap.size w
 obtain ⟨al, xa, hN⟩ := mk hB #[.bool bx, .slice ax kx cx, .bool dx, .slice ex lx mx] 39
 replace hB := hN; clear al hN
 try simp only [World.size_alloc] at xa
 obtain ⟨al, xb, hN⟩ := mk hB #[.bool bY, .slice ay ky cy, .bool dy, .slice ey ly my] 39
 replace xa := xa.on al; replace hB := hN; clear al hN
 try simp only [World.size_alloc] at xb
 have pa := xa.all4
 have pb := xb.all4
 go_enter Tryz.func29, Tryz.ntmps29
 go_wp2_with fail
 clear pa pb
 refine (H1.out _ hB).mono ?_
 rintro e w1 ⟨rfl, hb⟩
 replace xa := xa.on hb; replace xb := xb.on hb
 have hz1 := hb.size
 try simp at hz1
 replace hB := hB.trans (hb.mono hB.size); clear hb
 have pa := xa.all4
 have pb := xb.all4
 go_wp2_with fail
 clear pa pb
 refine (H2.out _ hB).mono ?_
 rintro e w2 ⟨rfl, hb⟩
 replace xa := xa.on hb; replace xb := xb.on hb
 have hz2 := hb.size
 try simp at hz2
 replace hB := hB.trans (hb.mono hB.size); clear hb
 have HB := Lib.hid hB
 clear hB xa xb
 go_wp2
 go_ret
 exact ⟨by show Ending.returned (Value.bool (decide (dx = dy) && decide (l1d = l2d))) = _; rw [Bool.decide_and], HB.out⟩
theorem ref2Same_f (bx : Bool) (ax : Option Addr) (kx cx : Nat) (dx : Bool) (ex : Option Addr) (lx mx : Nat) (bY : Bool) (ay : Option Addr) (ky cy : Nat) (dy : Bool) (ey : Option Addr) (ly my : Nat) (l1 l1d l2 l2d : List Nat) (hv : decide (bx = bY ∧ l1 = l2) = false) (w : World) (i1 : Lim w (.slice ax kx cx) l1) (_i1d : Lim w (.slice ex lx mx) l1d) (i2 : Lim w (.slice ay ky cy) l2) (_i2d : Lim w (.slice ey ly my) l2d) :
  Calls Tryz.prog 29 #[.agg #[.bool bx, .slice ax kx cx, .bool dx, .slice ex lx mx], .agg #[.bool bY, .slice ay ky cy, .bool dy, .slice ey ly my]] w fun e w' => e = .returned (.bool (false)) ∧ Below w.heap.size w w' := by
 have h1 := fun W (hW : Below w.heap.size w W) => refSame_any bx _ l1 bY _ l2 W (i1.below hW (Nat.le_refl _)) (i2.below hW (Nat.le_refl _))
 rw [hv] at h1
 have H1 := Lib.hid h1
 clear h1 hv i1 i2
 have hB := Below.refl w.heap.size w
 obtain ⟨al, xa, hN⟩ := mk hB #[.bool bx, .slice ax kx cx, .bool dx, .slice ex lx mx] 39
 replace hB := hN; clear al hN
 try simp only [World.size_alloc] at xa
 obtain ⟨al, xb, hN⟩ := mk hB #[.bool bY, .slice ay ky cy, .bool dy, .slice ey ly my] 39
 replace xa := xa.on al; replace hB := hN; clear al hN
 try simp only [World.size_alloc] at xb
 have pa := xa.all4
 have pb := xb.all4
 go_enter Tryz.func29, Tryz.ntmps29
 go_wp2_with fail
 clear pa pb
 refine (H1.out _ hB).mono ?_
 rintro e w1 ⟨rfl, hb⟩
 replace xa := xa.on hb; replace xb := xb.on hb
 have hz1 := hb.size
 try simp at hz1
 replace hB := hB.trans (hb.mono hB.size); clear hb
 have HB := Lib.hid hB
 clear hB xa xb
 go_wp2
 go_ret
 exact ⟨rfl, HB.out⟩
theorem ref2Same_raw (bx : Bool) (ax : Option Addr) (kx cx : Nat) (dx : Bool) (ex : Option Addr) (lx mx : Nat) (bY : Bool) (ay : Option Addr) (ky cy : Nat) (dy : Bool) (ey : Option Addr) (ly my : Nat) (l1 l1d l2 l2d : List Nat) (w : World) (i1 : Lim w (.slice ax kx cx) l1) (i1d : Lim w (.slice ex lx mx) l1d) (i2 : Lim w (.slice ay ky cy) l2) (i2d : Lim w (.slice ey ly my) l2d) :
  Calls Tryz.prog 29 #[.agg #[.bool bx, .slice ax kx cx, .bool dx, .slice ex lx mx], .agg #[.bool bY, .slice ay ky cy, .bool dy, .slice ey ly my]] w fun e w' => e = .returned (.bool (decide (bx = bY ∧ l1 = l2) && decide (dx = dy ∧ l1d = l2d))) ∧ Below w.heap.size w w' := by
 cases hv : decide (bx = bY ∧ l1 = l2) with
 | true => rw [Bool.true_and]; exact ref2Same_t bx ax kx cx dx ex lx mx bY ay ky cy dy ey ly my l1 l1d l2 l2d hv w i1 i1d i2 i2d
 | false => rw [Bool.false_and]; exact ref2Same_f bx ax kx cx dx ex lx mx bY ay ky cy dy ey ly my l1 l1d l2 l2d hv w i1 i1d i2 i2d
theorem ref2Same_fra (va vb : Value) (p q : Rat) (w : World) (h : Fra w va p) (g : Fra w vb q) :
  Calls Tryz.prog 29 #[va, vb] w fun e w' => e = .returned (.bool (decide (p = q))) ∧ Below w.heap.size w w' := by
 obtain ⟨s, s', rfl, h1, h2⟩ := h
 obtain ⟨t, t', rfl, g1, g2⟩ := g
 obtain ⟨a, c, rfl⟩ := lim_slice h1
 obtain ⟨a', c', rfl⟩ := lim_slice h2
 obtain ⟨d, e, rfl⟩ := lim_slice g1
 obtain ⟨d', e', rfl⟩ := lim_slice g2
 have := ref2Same_raw (decide (p.num < 0)) _ _ _ false _ _ _ (decide (q.num < 0)) _ _ _ false _ _ _ _ _ _ _ w h1 h2 g1 g2
 rwa [fra_same] at this
end Go.Proofs.YtmbcnfogjncdaaaGreat
namespace Go.Proofs
open Go.Shelf
def Tryz.lays129_ren : Go.Shelf.Ren := ⟨fun | 129 => 161 | n => n, fun | 53 => 69 | 3 => 3 | 4 => 4 | 46 => 118 | 5 => 5 | 9 => 9 | n => n, fun | n => n⟩
theorem Tryz.lays129 : Go.Proofs.Lays.n129 Tryz.prog Tryz.lays129_ren := {
 mixed := by kernel_rfl
 f129 := Tryz.func161.trans (congrArg some (by kernel_rfl))
 t3 := Tryz.underlying3
 a3 := Tryz.isAgg3
 z3 := Tryz.sizeOf3
 v3 := Tryz.zeroValue3
 t4 := Tryz.underlying4
 a4 := Tryz.isAgg4
 z4 := Tryz.sizeOf4
 v4 := Tryz.zeroValue4
 t5 := Tryz.underlying5
 a5 := Tryz.isAgg5
 z5 := Tryz.sizeOf5
 v5 := Tryz.zeroValue5
 t9 := Tryz.underlying9
 a9 := Tryz.isAgg9
 z9 := Tryz.sizeOf9
 v9 := Tryz.zeroValue9
 t46 := Tryz.underlying118
 a46 := Tryz.isAgg118
 z46 := Tryz.sizeOf118
 v46 := Tryz.zeroValue118
 t53 := Tryz.underlying69
 a53 := Tryz.isAgg69
 z53 := Tryz.sizeOf69
 v53 := Tryz.zeroValue69 }
theorem Tryz.bits_Len64 (x : Int) (w : World) (h0 : 0 ≤ x) (h1 : x ≤ 18446744073709551615) :
  Calls Tryz.prog 161 #[.int .u64 x] w fun e w' => e = .returned (.int .i64 (Lib.bitLen x.toNat)) ∧ w' = w := Any.bits_Len64 Tryz.lays129 x w h0 h1
def Tryz.lays219_ren : Go.Shelf.Ren := ⟨fun | 219 => 198 | 217 => 246 | 225 => 247 | 224 => 248 | 267 => 249 | 266 => 257 | 314 => 258 | n => n, fun | 9 => 9 | 3 => 3 | 4 => 4 | 5 => 5 | 46 => 118 | 146 => 283 | 51 => 282 | n => n, fun | 1 => 0 | n => n⟩
theorem Tryz.lays219 : Go.Proofs.Lays.n219 Tryz.prog Tryz.lays219_ren := {
 mixed := by kernel_rfl
 f217 := Tryz.func246.trans (congrArg some (by kernel_rfl))
 f219 := Tryz.func198.trans (congrArg some (by kernel_rfl))
 f224 := Tryz.func248.trans (congrArg some (by kernel_rfl))
 f225 := Tryz.func247.trans (congrArg some (by kernel_rfl))
 f266 := Tryz.func257.trans (congrArg some (by kernel_rfl))
 f267 := Tryz.func249.trans (congrArg some (by kernel_rfl))
 f314 := Tryz.func258.trans (congrArg some (by kernel_rfl))
 t3 := Tryz.underlying3
 a3 := Tryz.isAgg3
 z3 := Tryz.sizeOf3
 v3 := Tryz.zeroValue3
 t4 := Tryz.underlying4
 a4 := Tryz.isAgg4
 z4 := Tryz.sizeOf4
 v4 := Tryz.zeroValue4
 t5 := Tryz.underlying5
 a5 := Tryz.isAgg5
 z5 := Tryz.sizeOf5
 v5 := Tryz.zeroValue5
 t9 := Tryz.underlying9
 a9 := Tryz.isAgg9
 z9 := Tryz.sizeOf9
 v9 := Tryz.zeroValue9
 t46 := Tryz.underlying118
 a46 := Tryz.isAgg118
 z46 := Tryz.sizeOf118
 v46 := Tryz.zeroValue118
 t51 := Tryz.underlying282
 a51 := Tryz.isAgg282
 z51 := Tryz.sizeOf282
 v51 := Tryz.zeroValue282
 t146 := Tryz.underlying283
 a146 := Tryz.isAgg283
 z146 := Tryz.sizeOf283
 v146 := Tryz.zeroValue283
 g1 := by kernel_rfl }
open Go.RowKit Go.Lib in
theorem Tryz.stringslite_Index_one (s : ByteArray) (c : UInt8) (w : World) :
  Calls Tryz.prog 198 #[.string s, .string ⟨#[c]⟩] w fun e w' => e = .returned (.int .i64 (Lib.indexByte s.data.toList c)) ∧ w' = w := Any.stringslite_Index_one Tryz.lays219 s c w
def Tryz.lays99_ren : Go.Shelf.Ren := ⟨fun | 99 => 150 | 206 => 199 | n => n, fun | 9 => 9 | 4 => 4 | 3 => 3 | n => n, fun | n => n⟩
theorem Tryz.lays99 : Go.Proofs.Lays.n99 Tryz.prog Tryz.lays99_ren := {
 mixed := by kernel_rfl
 f99 := Tryz.func150.trans (congrArg some (by kernel_rfl))
 f206 := Tryz.func199.trans (congrArg some (by kernel_rfl))
 t3 := Tryz.underlying3
 a3 := Tryz.isAgg3
 z3 := Tryz.sizeOf3
 v3 := Tryz.zeroValue3
 t4 := Tryz.underlying4
 a4 := Tryz.isAgg4
 z4 := Tryz.sizeOf4
 v4 := Tryz.zeroValue4
 t9 := Tryz.underlying9
 a9 := Tryz.isAgg9
 z9 := Tryz.sizeOf9
 v9 := Tryz.zeroValue9 }
open Go.RowKit Go.Lib in
theorem Tryz.strings_HasPrefix (s p : ByteArray) (w : World) :
  Calls Tryz.prog 150 #[.string s, .string p] w fun e w' => e = .returned (.bool (Lib.hasPrefix s.data.toList p.data.toList)) ∧ w' = w := Any.strings_HasPrefix Tryz.lays99 s p w
end Go.Proofs
namespace Go.Proofs.YtmbcnfogjncdaaaGreat
open Go.RowKit Wh
theorem cell_put_other {W : World} {X : Nat} {u u' : Value} {p : Addr} (h : p.block ≠ X) : ((W.setCell ⟨X, 0, none⟩ u).setCell ⟨X, 1, none⟩ u').cell? p = W.cell? p :=
 (World.cell?_of_block (w := W.setCell ⟨X, 0, none⟩ u) (Below.heap_setCell _ _ _ _ h)).trans (World.cell?_of_block (w := W) (Below.heap_setCell _ _ _ _ h))
theorem Lim.put {W : World} {v : Value} {l : List Nat} {X : Nat} {b0 : Bool} {a0 : Option Addr} {k0 c0 : Nat} (h : Lim W v l) (hx : Bx W X (.bool b0) (.slice a0 k0 c0)) (u u' : Value) : Lim ((W.setCell ⟨X, 0, none⟩ u).setCell ⟨X, 1, none⟩ u') v l := by
  obtain ⟨a, cap, rfl, h1, h2, h3⟩ := h
  refine ⟨a, cap, rfl, h1, h2, ?_⟩
  rcases h3 with h3 | ⟨b, off, rfl, hc⟩
  · exact .inl h3
  · by_cases hl : l = []
    · exact .inl hl
    · have hb : b ≠ X := fun e => by
        subst e
        have := hc 0 (List.length_pos_iff.2 hl)
        have hh : W.heap[b]? = some (.cells #[.bool b0, .slice a0 k0 c0] 24 (0, 0)) := hx
        simp only [World.cell?, hh] at this
        rcases Nat.lt_trichotomy off 1 with g | g | g
        · obtain rfl : off = 0 := by omega
          simp at this
        · subst g; simp at this
        · simp at this
          rw [List.getElem?_eq_none (by simp; omega)] at this
          cases this
      exact .inr ⟨b, off, rfl, fun j hj => (cell_put_other hb).trans (hc j hj)⟩
theorem Num.put {W : World} {v : Value} {z : Int} {X : Nat} {b0 : Bool} {a0 : Option Addr} {k0 c0 : Nat} (h : Num W v z) (hx : Bx W X (.bool b0) (.slice a0 k0 c0)) (u u' : Value) : Num ((W.setCell ⟨X, 0, none⟩ u).setCell ⟨X, 1, none⟩ u') v z := by
 obtain ⟨s, e, h⟩ := h; exact ⟨s, e, h.put hx u u'⟩
end Go.Proofs.YtmbcnfogjncdaaaGreat
namespace Go.Proofs.YtmbcnfogjncdaaaGreat
open Go.RowKit Wh
theorem bitLenAux_lt : ∀ (f n : Nat), n < 2 ^ f → n < 2 ^ Lib.bitLenAux f n := by
  intro f
  induction f with
  | zero => intro n h; simp at h; subst h; simp [Lib.bitLenAux]
  | succ f ih =>
    intro n h
    unfold Lib.bitLenAux
    split
    · next h0 => subst h0; simp
    · have h1 : n / 2 < 2 ^ f := by rw [Nat.pow_succ] at h; omega
      have := ih (n / 2) h1
      rw [Nat.add_comm, Nat.pow_succ]
      omega
theorem bitLenAux_le : ∀ (f n : Nat), Lib.bitLenAux f n ≤ f := by
 intro f
 induction f with
 | zero => intro n; simp [Lib.bitLenAux]
 | succ f ih =>
  intro n
  unfold Lib.bitLenAux
  split
  · omega
  · have := ih (n / 2); omega
theorem bitLen_top (n : Nat) (h : n < 18446744073709551616) : n / 2 ^ Lib.bitLen n = 0 := Nat.div_eq_of_lt (bitLenAux_lt 64 n (by simpa using h))
theorem bitLen_le (n : Nat) : Lib.bitLen n ≤ 64 := bitLenAux_le 64 n
def PwOut (a : Int) (n : Nat) (w : World) (e : Ending) (w' : World) : Prop := (∃ v z, e = .returned v ∧ PowAns a n z ∧ Num w' v z) ∧ Below w.heap.size w w'
def PwRel (a : Int) (n R : Nat) (ba : Bool) (aa : Option Addr) (ka ca : Nat) (w : World) (i : Value) (wr : World) : Prop :=
 ∃ (k : Nat) (b : Bool) (a3 : Option Addr) (k3 c3 : Nat), k ≤ 64 ∧ i = .int .i64 ((k : Int) - 1) ∧ Hid (Sz 768 (a ^ (n / 2 ^ k))) ∧ Num wr (.agg #[.bool b, .slice a3 k3 c3]) (a ^ (n / 2 ^ k)) ∧ Bk wr R #[.bool b, .slice a3 k3 c3] 24 ∧ Bk wr w.heap.size #[.bool ba, .slice aa ka ca] 24 ∧ Bk wr (w.heap.size + 1) #[.bool false, .slice none 0 0] 24 ∧ Below w.heap.size w wr
theorem num_putB {W : World} {v : Value} {z : Int} {X : Nat} {b0 : Bool} {a0 : Option Addr} {k0 c0 : Nat} (h : Num W v z) (hx : Bk W X #[.bool b0, .slice a0 k0 c0] 24) (u u' : Value) : Num ((W.setCell ⟨X, 0, none⟩ u).setCell ⟨X, 1, none⟩ u') v z := h.put hx u u'
theorem bk_put2 {W : World} {B : Nat} {x y : Value} (h : Bk W B #[x, y] 24) (u u' : Value) : Bk ((W.setCell ⟨B, 0, none⟩ u).setCell ⟨B, 1, none⟩ u') B #[u, u'] 24 := Bx.put h u u'
theorem bk_put2_other {W : World} {B B' : Nat} {x y : Value} (h : Bk W B #[x, y] 24) (u u' : Value) (hne : B' ≠ B) : Bk ((W.setCell ⟨B', 0, none⟩ u).setCell ⟨B', 1, none⟩ u') B #[x, y] 24 := Bx.put_other h u u' hne
theorem Bk.free2 {W B x y T} (h : Bk W B #[x, y] T) : W.frozen? ⟨B, 0, none⟩ = false ∧ W.frozen? ⟨B, 1, none⟩ = false := ⟨h.free 0, h.free 1⟩
theorem powAns_ok {a : Int} {n : Nat} (h : Sz 768 (a ^ (n / 2 ^ 0))) : PowAns a n (a ^ (n / 2 ^ 0)) := by
 rw [Nat.pow_zero, Nat.div_one] at h ⊢
 by_cases hs : Sz 256 (a ^ n)
 · exact ⟨h, .inl ⟨hs, rfl⟩⟩
 · exact ⟨h, .inr ⟨hs, hs⟩⟩
theorem powAns_long {a : Int} {n k : Nat} (h : Sz 768 (a ^ (n / 2 ^ k))) (hl : ¬ Sz 256 (a ^ (n / 2 ^ k))) : PowAns a n (a ^ (n / 2 ^ k)) := ⟨h, .inr ⟨hl, long_mono (Nat.div_le_self _ _) hl⟩⟩
theorem bit_of (n k : Nat) (hn : n < 18446744073709551616) (b : Bool) (h : (bits BinOp.and IntKind.u64 ((n : Int) / 2 ^ (k - 1)) 1 == 1) = b) : (b = true → n / 2 ^ (k - 1) % 2 = 1) ∧ (b = false → n / 2 ^ (k - 1) % 2 ≠ 1) := by
  have e : (n : Int) / 2 ^ (k - 1) = ((n / 2 ^ (k - 1) : Nat) : Int) := by simp
  have hle : n / 2 ^ (k - 1) ≤ n := Nat.div_le_self _ _
  rw [e] at h
  generalize n / 2 ^ (k - 1) = q at h hle ⊢
  clear e
  rw [and_one_u64 _ (by omega) (by omega)] at h
  subst h
  constructor
  · intro h1
    rw [beq_iff_eq] at h1
    omega
  · intro h1
    rw [beq_eq_false_iff_ne] at h1
    omega
theorem pw_odd {a : Int} {n k : Nat} (h0 : 0 < k) (hodd : n / 2 ^ (k - 1) % 2 = 1) (hl : Sz 256 (a ^ (n / 2 ^ k))) (ha : Sz 256 a) : a ^ (n / 2 ^ k) * a ^ (n / 2 ^ k) * a = a ^ (n / 2 ^ (k - 1)) ∧ Sz 768 (a ^ (n / 2 ^ k) * a ^ (n / 2 ^ k) * a) := by
 refine ⟨?_, ((hl.mul hl).mul ha).mono (by decide)⟩
 obtain ⟨j, rfl⟩ : ∃ j, k = j + 1 := ⟨k - 1, by omega⟩
 rw [Nat.add_sub_cancel] at hodd ⊢
 rw [pow_step a n j, if_pos hodd]
theorem pw_even {a : Int} {n k : Nat} (h0 : 0 < k) (hev : n / 2 ^ (k - 1) % 2 ≠ 1) (hl : Sz 256 (a ^ (n / 2 ^ k))) : a ^ (n / 2 ^ k) * a ^ (n / 2 ^ k) = a ^ (n / 2 ^ (k - 1)) ∧ Sz 768 (a ^ (n / 2 ^ k) * a ^ (n / 2 ^ k)) := by
 refine ⟨?_, (hl.mul hl).mono (by decide)⟩
 obtain ⟨j, rfl⟩ : ∃ j, k = j + 1 := ⟨k - 1, by omega⟩
 rw [Nat.add_sub_cancel] at hev ⊢
 rw [pow_step a n j, if_neg hev]
theorem pw_next {a : Int} {n R k : Nat} {ba : Bool} {aa : Option Addr} {ka ca : Nat} {w W : World} {b : Bool} {a3 : Option Addr} {k3 c3 : Nat} {z : Int} (h0 : 0 < k) (hk : k ≤ 64) (hz : z = a ^ (n / 2 ^ (k - 1)) ∧ Sz 768 z) (nv : Num W (.agg #[.bool b, .slice a3 k3 c3]) z) (xR : Bk W R #[.bool b, .slice a3 k3 c3] 24) (xa : Bk W w.heap.size #[.bool ba, .slice aa ka ca] 24) (xr : Bk W (w.heap.size + 1) #[.bool false, .slice none 0 0] 24) (hB : Below w.heap.size w W) :
    PwRel a n R ba aa ka ca w (.int .i64 ((k : Int) - 1 - 1)) W ∧ (intOf (.int .i64 ((k : Int) - 1 - 1)) + 1).toNat < (intOf (.int .i64 ((k : Int) - 1)) + 1).toNat := by
  obtain ⟨rfl, hs⟩ := hz
  refine ⟨⟨k - 1, b, a3, k3, c3, by omega, ?_, Lib.hid hs, nv, xR, xa, xr, hB⟩, ?_⟩
  · congr 1; omega
  · show (((k : Int) - 1 - 1) + 1).toNat < (((k : Int) - 1) + 1).toNat
    omega
theorem power_any (a : Int) (ha : Sz 256 a) (n : Nat) (hn : n < 18446744073709551616) (ba : Bool) (aa : Option Addr) (ka ca : Nat) (w : World) (na : Num w (.agg #[.bool ba, .slice aa ka ca]) a) :
    Calls Tryz.prog 123 #[.agg #[.bool ba, .slice aa ka ca], .int .u64 (n : Int)] w (PwOut a n w) := by
  have HNA := Lib.hid na
  have HSA := Lib.hid ha
  have H1 := Lib.hid (fun W => FromInt_any 1 (by decide) (by decide) W)
  have HL := Lib.hid (fun W => Tryz.bits_Len64 (n : Int) W (by omega) (by omega))
  have hz := ((Below.refl w.heap.size w).alloc (Nat.le_refl _) (.cells #[.bool ba, .slice aa ka ca] 24)).alloc (by simp) (.cells #[.bool false, .slice none 0 0] 24)
  have xa := (Bk.new w #[.bool ba, .slice aa ka ca] 24).alloc (.cells #[.bool false, .slice none 0 0] 24)
  have xr := Bk.new (w.alloc (.cells #[.bool ba, .slice aa ka ca] 24)) #[.bool false, .slice none 0 0] 24
  simp only [World.size_alloc] at xr
  have HN := Lib.hid hn
  clear na ha hn
  go_enter Tryz.func123, Tryz.ntmps123
  go_wp2_with fail
  refine (H1.out _).mono ?_
  rintro e w1 ⟨⟨v, rfl, hv⟩, hb⟩
  have nv := hv.num
  obtain ⟨b, a3, k3, c3, rfl⟩ := nv.opened
  replace xa := xa.on hb; replace xr := xr.on hb
  have hB := hz.trans (hb.mono hz.size)
  have hs1 := hb.size
  simp at hs1
  clear hb hv hz
  have hal := (Below.refl w1.heap.size w1).alloc (Nat.le_refl _) (.cells #[.bool b, .slice a3 k3 c3] 24)
  replace xa := xa.on hal; replace xr := xr.on hal; replace nv := nv.below hal (Nat.le_refl _); replace hB := hB.trans (hal.mono hB.size)
  have xR := Bk.new w1 #[.bool b, .slice a3 k3 c3] 24
  clear hal
  obtain ⟨R, hR⟩ : ∃ R, w1.heap.size = R := ⟨_, rfl⟩
  obtain ⟨W2, hW2⟩ : ∃ W, w1.alloc (.cells #[.bool b, .slice a3 k3 c3] 24) = W := ⟨_, rfl⟩
  rw [hW2] at xa xr nv hB xR
  rw [hR] at xR hs1
  go_wp2_with fail
  refine (HL.out _).mono ?_
  rintro e w3 ⟨rfl, rfl⟩
  clear hR hW2
  have hL := bitLen_le n
  have hT := bitLen_top n HN.out
  rw [Int.toNat_natCast]
  obtain ⟨L, hLL⟩ : ∃ L, Lib.bitLen n = L := ⟨_, rfl⟩
  rw [hLL] at hL hT ⊢
  have HT := Lib.hid hT
  clear hT hLL
  go_wp2_with fail
  go_loopw [6] (fun i wr => PwRel a n R ba aa ka ca w i wr) (fun i _ => (intOf i + 1).toNat)
  case atStart => exact ⟨L, b, a3, k3, c3, hL, rfl, Lib.hid (by rw [HT.out]; exact (Sz.small (z := a ^ 0) (by simp)).mono (by decide)), by rw [HT.out, Int.pow_zero]; exact nv, xR, xa, xr, hB⟩
  case round =>
    clear xR xa xr nv hB hL HT
    obtain ⟨k, b, a3, k3, c3, hk, rfl, HS, nv, xR, xa, xr, hB⟩ := hrel
    obtain ⟨wx, hwx⟩ : ∃ wx, wx = wr := ⟨_, rfl⟩
    subst hwx
    obtain ⟨p0, p1⟩ := xR.cells2
    rcases Nat.eq_zero_or_pos k with h0 | h0
    · subst h0
      obtain ⟨q0, q1⟩ := xr.cells2
      obtain ⟨g0, g1⟩ := xr.free2
      go_wp2_with fail
      have nv2 := num_putB nv xr (.bool b) (.slice a3 k3 c3)
      have hB2 := (hB.setCell (p := ⟨w.heap.size + 1, 0, none⟩) (by simp) (.bool b)).setCell (p := ⟨w.heap.size + 1, 1, none⟩) (by simp) (.slice a3 k3 c3)
      replace xr := bk_put2 xr (.bool b) (.slice a3 k3 c3)
      generalize (wx.setCell ⟨w.heap.size + 1, 0, none⟩ (.bool b)).setCell ⟨w.heap.size + 1, 1, none⟩ (.slice a3 k3 c3) = WF at nv2 hB2 xr ⊢
      obtain ⟨q0, q1⟩ := xr.cells2
      exact bodyPost_ret (v := .agg #[.bool b, .slice a3 k3 c3]) (by simp [results, Tryz.results123, go_sem, q0, q1]) rfl ⟨⟨_, _, rfl, powAns_ok HS.out, nv2⟩, hB2⟩
    · have i1 : (1 : Int) ≤ (k : Int) := by omega
      have i2 : (0 : Int) ≤ (k : Int) - 1 := by omega
      have i3 : ((k : Int) - 1).toNat = k - 1 := by omega
      go_wp2_with fail
      refine (tooLong_num _ _ _ nv).mono ?_
      rintro e w4 ⟨rfl, hb⟩
      replace nv := nv.on hb; replace xR := xR.on hb; replace xa := xa.on hb; replace xr := xr.on hb; replace hB := hB.trans (hb.mono hB.size); clear hb p0 p1
      obtain ⟨p0, p1⟩ := xR.cells2
      by_cases hl : Sz 256 (a ^ (n / 2 ^ k))
      · rw [show decide (256 < (dig (a ^ (n / 2 ^ k)).natAbs).length) = false from by rw [decide_eq_false_iff_not]; have := hl.len2; omega]
        go_wp2_with fail
        refine (frtimes_any _ _ _ _ _ rfl (hl.mono (by decide)) (hl.mono (by decide)) ((hl.mul hl).mono (by decide)) _ nv nv).mono ?_
        rintro e w5 ⟨⟨v, rfl, hv⟩, hb⟩
        replace nv := hv.num; clear hv p0 p1
        obtain ⟨b', a', k', c', rfl⟩ := nv.opened
        replace xR := xR.on hb; replace xa := xa.on hb; replace xr := xr.on hb; replace hB := hB.trans (hb.mono hB.size); clear hb
        obtain ⟨p0, p1⟩ := xR.cells2
        obtain ⟨g0, g1⟩ := xR.free2
        have nv2 := num_putB nv xR (.bool b') (.slice a' k' c')
        have xa2 := bk_put2_other xa (.bool b') (.slice a' k' c') (B' := R) (by omega)
        have xr2 := bk_put2_other xr (.bool b') (.slice a' k' c') (B' := R) (by omega)
        have hB2 := (hB.setCell (p := ⟨R, 0, none⟩) (by simp; omega) (.bool b')).setCell (p := ⟨R, 1, none⟩) (by simp; omega) (.slice a' k' c')
        have xR2 := bk_put2 xR (.bool b') (.slice a' k' c')
        generalize hWF : (w5.setCell ⟨R, 0, none⟩ (.bool b')).setCell ⟨R, 1, none⟩ (.slice a' k' c') = WF at nv2 xa2 xr2 hB2 xR2
        clear nv xa xr hB xR
        obtain ⟨o0, o1⟩ := xR2.cells2
        obtain ⟨p2, p3⟩ := xa2.cells2
        go_wp2_with fail
        · rename_i hK
          have hodd := (bit_of n k HN.out true (by assumption)).1 rfl
          refine (frtimes_any _ _ _ _ _ rfl ((hl.mul hl).mono (by decide)) (HSA.out.mono (by decide)) (((hl.mul hl).mul HSA.out).mono (by decide)) _ nv2 (HNA.out.below hB2 (Nat.le_refl _))).mono ?_
          rintro e w6 ⟨⟨v, rfl, hv⟩, hb⟩
          have nv := hv.num
          clear hv
          obtain ⟨b4, a4, k4, c4, rfl⟩ := nv.opened
          replace xR := xR2.on hb; replace xa := xa2.on hb; replace xr := xr2.on hb; replace hB := hB2.trans (hb.mono hB2.size); clear hb
          obtain ⟨p4, p5⟩ := xR.cells2
          obtain ⟨g4, g5⟩ := xR.free2
          have nv3 := num_putB nv xR (.bool b4) (.slice a4 k4 c4)
          have xa3 := bk_put2_other xa (.bool b4) (.slice a4 k4 c4) (B' := R) (by omega)
          have xr3 := bk_put2_other xr (.bool b4) (.slice a4 k4 c4) (B' := R) (by omega)
          have hB3 := (hB.setCell (p := ⟨R, 0, none⟩) (by simp; omega) (.bool b4)).setCell (p := ⟨R, 1, none⟩) (by simp; omega) (.slice a4 k4 c4)
          have xR3 := bk_put2 xR (.bool b4) (.slice a4 k4 c4)
          refine hK _ _ ?_
          clear hK
          go_wp2_with fail
          exact pw_next h0 hk (pw_odd h0 hodd hl HSA.out) nv3 xR3 xa3 xr3 hB3
        · have hev := (bit_of n k HN.out false (by assumption)).2 rfl
          exact pw_next h0 hk (pw_even h0 hev hl) nv2 xR2 xa2 xr2 hB2
      · rw [show decide (256 < (dig (a ^ (n / 2 ^ k)).natAbs).length) = true from by rw [decide_eq_true_iff]; exact Nat.lt_of_not_le hl]
        obtain ⟨q0, q1⟩ := xr.cells2
        obtain ⟨g0, g1⟩ := xr.free2
        go_wp2_with fail
        have nv2 := num_putB nv xr (.bool b) (.slice a3 k3 c3)
        have hB2 := (hB.setCell (p := ⟨w.heap.size + 1, 0, none⟩) (by simp) (.bool b)).setCell (p := ⟨w.heap.size + 1, 1, none⟩) (by simp) (.slice a3 k3 c3)
        replace xr := bk_put2 xr (.bool b) (.slice a3 k3 c3)
        generalize (wx.setCell ⟨w.heap.size + 1, 0, none⟩ (.bool b)).setCell ⟨w.heap.size + 1, 1, none⟩ (.slice a3 k3 c3) = WF at nv2 hB2 xr ⊢
        obtain ⟨q0, q1⟩ := xr.cells2
        exact bodyPost_ret (v := .agg #[.bool b, .slice a3 k3 c3]) (by simp [results, Tryz.results123, go_sem, q0, q1]) rfl ⟨⟨_, _, rfl, powAns_long HS.out hl, nv2⟩, hB2⟩
end Go.Proofs.YtmbcnfogjncdaaaGreat
