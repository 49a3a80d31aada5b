/- A part of the proofs about fractions. -/
import Derived.Deep.DeepCutAuto
import Derived.Deep.RegionHeld3
import Derived.Outline
import Derived.Test.YtmbcnfogjncdaaaGreatQFl1
import Derived.Test.YtmbcnfogjncdaaaGreatQFl14
import Derived.Test.YtmbcnfogjncdaaaGreatQFl18
import Derived.Test.YtmbcnfogjncdaaaGreatQFl19
import Derived.Test.YtmbcnfogjncdaaaGreatQFl9
set_option maxRecDepth 100000
set_option maxHeartbeats 4000000
namespace Go.Proofs.YtmbcnfogjncdaaaGreat
open Go.RowKit Wh
theorem floor_div (q : Rat) : q.num = q.num / (q.den : Int) * (q.den : Int) + q.num % (q.den : Int) ∧ (0 ≤ q.num % (q.den : Int) ∧ q.num % (q.den : Int) < (q.den : Int) ∨ (q.den : Int) < q.num % (q.den : Int) ∧ q.num % (q.den : Int) ≤ 0) := by
 have h : (q.den : Int) > 0 := by have := q.den_pos; omega
 refine ⟨?_, .inl ⟨Int.emod_nonneg _ (by omega), Int.emod_lt_of_pos _ h⟩⟩
 rw [Int.mul_comm]; exact (Int.mul_ediv_add_emod _ _).symm
theorem floor_sz {n : Nat} {q : Rat} (h : Sz n q.num) : Sz n (q.num / (q.den : Int)) := by
  refine h.le ?_
  have hd := q.den_pos
  have h3 := floor_div q
  obtain ⟨h3, h4⟩ := h3
  generalize q.num / (q.den : Int) = f at *
  generalize q.num % (q.den : Int) = r at *
  obtain ⟨d, hdd⟩ : ∃ d : Int, (q.den : Int) = d := ⟨_, rfl⟩
  have hd1 : 1 ≤ d := by omega
  rw [hdd] at h3 h4
  clear hd hdd h
  rcases Int.lt_or_le f 0 with g | g
  · have h1 : (f + 1) * d ≤ (f + 1) * 1 := Int.mul_le_mul_of_nonpos_left (by omega) hd1
    rw [Int.add_mul] at h1
    omega
  · have h1 : f * 1 ≤ f * d := Int.mul_le_mul_of_nonneg_left hd1 g
    omega
theorem frFloor_ok (b : Bool) (a : Option Addr) (k c : Nat) (b' : Bool) (a' : Option Addr) (k' c' : Nat) (q : Rat) (hq : Fz 256 256 q) (w : World) (h : Fra w (.agg #[.bool b, .slice a k c, .bool b', .slice a' k' c']) q) :
  Calls Tryz.prog 78 #[.agg #[.bool b, .slice a k c, .bool b', .slice a' k' c']] w fun e w' => (∃ v, e = .returned (.tuple #[v, .int .i64 0]) ∧ Num w' v (q.num / (q.den : Int))) ∧ Below w.heap.size w w' := by
 have HV := Lib.hid (fun W (hW : Below w.heap.size w W) => valid_ok (.agg #[.bool b, .slice a k c, .bool b', .slice a' k' c']) q hq W (h.below hW (Nat.le_refl _)))
 obtain ⟨eb, eb', n1, n2⟩ := fra_nums h
 obtain ⟨h1, h2⟩ := hq
 have hdiv : q.num = q.num / (q.den : Int) * (q.den : Int) + q.num % (q.den : Int) ∧ (0 ≤ q.num % (q.den : Int) ∧ q.num % (q.den : Int) < (q.den : Int) ∨ (q.den : Int) < q.num % (q.den : Int) ∧ q.num % (q.den : Int) ≤ 0) := floor_div q
 have hd0 : (q.den : Int) ≠ 0 := by have := q.den_pos; omega
 generalize hfl : q.num / (q.den : Int) = fl at *
 generalize hre : q.num % (q.den : Int) = re at *
 have HD := Lib.hid (fun W (hW : Below w.heap.size w W) => frdivide_known (.agg #[.bool b, .slice a k c]) (.agg #[.bool b', .slice a' k' c']) q.num q.den fl re hdiv (h1.mono (by decide)) (h2.mono (by decide)) hd0 W (n1.below hW (Nat.le_refl _)) (n2.below hW (Nat.le_refl _)))
 clear h n1 n2 h1 h2 eb eb' hdiv hd0 hfl hre
 have hB := Below.refl w.heap.size w
 obtain ⟨al, xa, hN⟩ := mk hB #[.bool b, .slice a k c, .bool b', .slice a' k' c'] 39
 replace hB := hN; clear al hN
 try simp only [World.size_alloc] at xa
 obtain ⟨al, xr, hN⟩ := mk hB #[.bool false, .slice none 0 0] 24
 replace xa := xa.on al; replace hB := hN; clear al hN
 try simp only [World.size_alloc] at xr
 go_enter Tryz.func78, Tryz.ntmps78
 obtain ⟨al, xx, hN⟩ := mk hB #[.bool b, .slice a k c, .bool b', .slice a' k' c'] 101
 replace xa := xa.on al; replace xr := xr.on al; replace hB := hN; clear al hN
 try simp only [World.size_alloc] at xx
 have pa := xa.all4
 have pr := xr.all2
 have px := xx.all4
 go_wp2_with fail
 clear pa pr px
 refine (HV.out _ hB).mono ?_
 rintro e w1 ⟨rfl, hb⟩
 replace xa := xa.on hb; replace xr := xr.on hb; replace xx := xx.on hb
 have hz1 := hb.size
 try simp at hz1
 replace hB := hB.trans (hb.mono hB.size); clear hb xa
 have pr := xr.all2
 have px := xx.all4
 go_wp2_with fail
 clear pr px
 refine (HD.out _ hB).mono ?_
 rintro e w2 ⟨⟨vq, vr, rfl, gA, gB⟩, hb⟩
 obtain ⟨b5, a5, k5, c5, rfl⟩ := gA.num.opened
 obtain ⟨b6, a6, k6, c6, rfl⟩ := gB.num.opened
 replace gA := gA.num; replace gB := gB.num; replace xr := xr.on hb; replace xx := xx.on hb
 have hz2 := hb.size
 try simp at hz2
 replace hB := hB.trans (hb.mono hB.size); clear hb xx HV HD
 obtain ⟨al, xA, hN⟩ := mk hB #[.bool b5, .slice a5 k5 c5] 24
 replace xr := xr.on al; replace gA := gA.on al; replace gB := gB.on al; replace hB := hN; clear al hN
 try simp only [World.size_alloc] at xA
 obtain ⟨al, xB, hN⟩ := mk hB #[.bool b6, .slice a6 k6 c6] 24
 replace xr := xr.on al; replace xA := xA.on al; replace gA := gA.on al; replace gB := gB.on al; replace hB := hN; clear al hN
 try simp only [World.size_alloc] at xB
 clear gB
 have pr := xr.all2
 have pA := xA.all2
 have pB := xB.all2
 go_wp2_with fail
 clear pr pA pB xA xB; replace gA := gA.setB xr rfl 0 (.bool b5)
 replace xr : Bk _ (w.heap.size + 1) #[.bool b5, .slice none 0 0] _ := xr.put 0 (.bool b5)
 replace hB := hB.setCell (p := ⟨w.heap.size + 1, 0, none⟩) (by first | omega | (simp; omega) | simp) (.bool b5); replace gA := gA.setB xr rfl 1 (.slice a5 k5 c5)
 replace xr : Bk _ (w.heap.size + 1) #[.bool b5, .slice a5 k5 c5] _ := xr.put 1 (.slice a5 k5 c5)
 replace hB := hB.setCell (p := ⟨w.heap.size + 1, 1, none⟩) (by first | omega | (simp; omega) | simp) (.slice a5 k5 c5)
 generalize ((((w2.alloc (.cells #[.bool b5, .slice a5 k5 c5] 24)).alloc (.cells #[.bool b6, .slice a6 k6 c6] 24)).setCell ⟨w.heap.size + 1, 0, none⟩ (.bool b5)).setCell ⟨w.heap.size + 1, 1, none⟩ (.slice a5 k5 c5)) = WF at *
 have pr := xr.all2
 exact bodyPost_ret (v := .tuple #[.agg #[.bool b5, .slice a5 k5 c5], .int .i64 0]) (by simp [results, Tryz.results78, go_sem, pr]) rfl ⟨⟨_, rfl, gA⟩, hB⟩
theorem frCeil_down (b : Bool) (a : Option Addr) (k c : Nat) (b' : Bool) (a' : Option Addr) (k' c' : Nat) (q : Rat) (hq : Fz 256 256 q) (hr : q.num % (q.den : Int) = 0) (w : World) (h : Fra w (.agg #[.bool b, .slice a k c, .bool b', .slice a' k' c']) q) :
  Calls Tryz.prog 79 #[.agg #[.bool b, .slice a k c, .bool b', .slice a' k' c']] w fun e w' => (∃ v, e = .returned (.tuple #[v, .int .i64 0]) ∧ Num w' v (q.num / (q.den : Int))) ∧ Below w.heap.size w w' := by
 have HV := Lib.hid (fun W (hW : Below w.heap.size w W) => valid_ok (.agg #[.bool b, .slice a k c, .bool b', .slice a' k' c']) q hq W (h.below hW (Nat.le_refl _)))
 obtain ⟨eb, eb', n1, n2⟩ := fra_nums h
 obtain ⟨h1, h2⟩ := hq
 have hdiv : q.num = q.num / (q.den : Int) * (q.den : Int) + q.num % (q.den : Int) ∧ (0 ≤ q.num % (q.den : Int) ∧ q.num % (q.den : Int) < (q.den : Int) ∨ (q.den : Int) < q.num % (q.den : Int) ∧ q.num % (q.den : Int) ≤ 0) := floor_div q
 have hd0 : (q.den : Int) ≠ 0 := by have := q.den_pos; omega
 have hr0 : decide (q.num % (q.den : Int) = 0) = true := decide_eq_true hr
 generalize hfl : q.num / (q.den : Int) = fl at *
 generalize hre : q.num % (q.den : Int) = re at *
 have hz := fun v W (h : Num W v re) => isZero_num v re W h
 rw [hr0] at hz
 have HZ := Lib.hid hz
 clear hz hr0 hr
 have HD := Lib.hid (fun W (hW : Below w.heap.size w W) => frdivide_known (.agg #[.bool b, .slice a k c]) (.agg #[.bool b', .slice a' k' c']) q.num q.den fl re hdiv (h1.mono (by decide)) (h2.mono (by decide)) hd0 W (n1.below hW (Nat.le_refl _)) (n2.below hW (Nat.le_refl _)))
 clear h n1 n2 h1 h2 eb eb' hdiv hd0 hfl hre
 have hB := Below.refl w.heap.size w
 obtain ⟨al, xa, hN⟩ := mk hB #[.bool b, .slice a k c, .bool b', .slice a' k' c'] 39
 replace hB := hN; clear al hN
 try simp only [World.size_alloc] at xa
 obtain ⟨al, xr, hN⟩ := mk hB #[.bool false, .slice none 0 0] 24
 replace xa := xa.on al; replace hB := hN; clear al hN
 try simp only [World.size_alloc] at xr
 go_enter Tryz.func79, Tryz.ntmps79
 obtain ⟨al, xx, hN⟩ := mk hB #[.bool b, .slice a k c, .bool b', .slice a' k' c'] 101
 replace xa := xa.on al; replace xr := xr.on al; replace hB := hN; clear al hN
 try simp only [World.size_alloc] at xx
 have pa := xa.all4
 have pr := xr.all2
 have px := xx.all4
 go_wp2_with fail
 clear pa pr px
 refine (HV.out _ hB).mono ?_
 rintro e w1 ⟨rfl, hb⟩
 replace xa := xa.on hb; replace xr := xr.on hb; replace xx := xx.on hb
 have hz1 := hb.size
 try simp at hz1
 replace hB := hB.trans (hb.mono hB.size); clear hb xa
 have pr := xr.all2
 have px := xx.all4
 go_wp2_with fail
 clear pr px
 refine (HD.out _ hB).mono ?_
 rintro e w2 ⟨⟨vq, vr, rfl, gA, gB⟩, hb⟩
 obtain ⟨b5, a5, k5, c5, rfl⟩ := gA.num.opened
 obtain ⟨b6, a6, k6, c6, rfl⟩ := gB.num.opened
 replace gA := gA.num; replace gB := gB.num; replace xr := xr.on hb; replace xx := xx.on hb
 have hz2 := hb.size
 try simp at hz2
 replace hB := hB.trans (hb.mono hB.size); clear hb xx HV HD
 obtain ⟨al, xA, hN⟩ := mk hB #[.bool b5, .slice a5 k5 c5] 24
 replace xr := xr.on al; replace gA := gA.on al; replace gB := gB.on al; replace hB := hN; clear al hN
 try simp only [World.size_alloc] at xA
 obtain ⟨al, xB, hN⟩ := mk hB #[.bool b6, .slice a6 k6 c6] 24
 replace xr := xr.on al; replace xA := xA.on al; replace gA := gA.on al; replace gB := gB.on al; replace hB := hN; clear al hN
 try simp only [World.size_alloc] at xB
 have pr := xr.all2
 have pA := xA.all2
 have pB := xB.all2
 go_wp2_with fail
 clear pr pA pB
 refine (HZ.out _ _ gB).mono ?_
 rintro e w3 ⟨rfl, hb⟩
 replace xr := xr.on hb; replace xA := xA.on hb; replace xB := xB.on hb; replace gA := gA.on hb; replace gB := gB.on hb
 have hz3 := hb.size
 try simp at hz3
 replace hB := hB.trans (hb.mono hB.size); clear hb gB HZ
 have pr := xr.all2
 have pA := xA.all2
 have pB := xB.all2
 go_wp2_with fail
 clear pr pA pB xA xB; replace gA := gA.setB xr rfl 0 (.bool b5)
 replace xr : Bk _ (w.heap.size + 1) #[.bool b5, .slice none 0 0] _ := xr.put 0 (.bool b5)
 replace hB := hB.setCell (p := ⟨w.heap.size + 1, 0, none⟩) (by first | omega | (simp; omega) | simp) (.bool b5); replace gA := gA.setB xr rfl 1 (.slice a5 k5 c5)
 replace xr : Bk _ (w.heap.size + 1) #[.bool b5, .slice a5 k5 c5] _ := xr.put 1 (.slice a5 k5 c5)
 replace hB := hB.setCell (p := ⟨w.heap.size + 1, 1, none⟩) (by first | omega | (simp; omega) | simp) (.slice a5 k5 c5)
 generalize ((w3.setCell ⟨w.heap.size + 1, 0, none⟩ (.bool b5)).setCell ⟨w.heap.size + 1, 1, none⟩ (.slice a5 k5 c5)) = WF at *
 have pr := xr.all2
 exact bodyPost_ret (v := .tuple #[.agg #[.bool b5, .slice a5 k5 c5], .int .i64 0]) (by simp [results, Tryz.results79, go_sem, pr]) rfl ⟨⟨_, rfl, gA⟩, hB⟩
theorem frCeil_up (b : Bool) (a : Option Addr) (k c : Nat) (b' : Bool) (a' : Option Addr) (k' c' : Nat) (q : Rat) (hq : Fz 256 256 q) (hr : q.num % (q.den : Int) ≠ 0) (w : World) (h : Fra w (.agg #[.bool b, .slice a k c, .bool b', .slice a' k' c']) q) :
  Calls Tryz.prog 79 #[.agg #[.bool b, .slice a k c, .bool b', .slice a' k' c']] w fun e w' => (∃ v, e = .returned (.tuple #[v, .int .i64 0]) ∧ Num w' v (q.num / (q.den : Int) + 1)) ∧ Below w.heap.size w w' := by
 have HV := Lib.hid (fun W (hW : Below w.heap.size w W) => valid_ok (.agg #[.bool b, .slice a k c, .bool b', .slice a' k' c']) q hq W (h.below hW (Nat.le_refl _)))
 obtain ⟨eb, eb', n1, n2⟩ := fra_nums h
 obtain ⟨h1, h2⟩ := hq
 have hdiv : q.num = q.num / (q.den : Int) * (q.den : Int) + q.num % (q.den : Int) ∧ (0 ≤ q.num % (q.den : Int) ∧ q.num % (q.den : Int) < (q.den : Int) ∨ (q.den : Int) < q.num % (q.den : Int) ∧ q.num % (q.den : Int) ≤ 0) := floor_div q
 have hd0 : (q.den : Int) ≠ 0 := by have := q.den_pos; omega
 have hr0 : decide (q.num % (q.den : Int) = 0) = false := decide_eq_false hr
 have hsf : Sz 257 (q.num / (q.den : Int) + 1) := Sz.add (floor_sz h1) (Sz.small (z := 1) (by decide))
 have hf := floor_sz h1
 generalize hfl : q.num / (q.den : Int) = fl at *
 generalize hre : q.num % (q.den : Int) = re at *
 have HP := Lib.hid (fun va vb W (h : Num W va fl) (g : Num W vb 1) => frplus_any va vb fl 1 (fl + 1) rfl (hf.mono (by decide)) ((Sz.small (z := 1) (by decide)).mono (by decide)) (hsf.mono (by decide)) W h g)
 have H1 := Lib.hid (fun W => FromInt_any 1 (by decide) (by decide) W)
 clear hsf hf
 have hz := fun v W (h : Num W v re) => isZero_num v re W h
 rw [hr0] at hz
 have HZ := Lib.hid hz
 clear hz hr0 hr
 have HD := Lib.hid (fun W (hW : Below w.heap.size w W) => frdivide_known (.agg #[.bool b, .slice a k c]) (.agg #[.bool b', .slice a' k' c']) q.num q.den fl re hdiv (h1.mono (by decide)) (h2.mono (by decide)) hd0 W (n1.below hW (Nat.le_refl _)) (n2.below hW (Nat.le_refl _)))
 clear h n1 n2 h1 h2 eb eb' hdiv hd0 hfl hre
 have hB := Below.refl w.heap.size w
 obtain ⟨al, xa, hN⟩ := mk hB #[.bool b, .slice a k c, .bool b', .slice a' k' c'] 39
 replace hB := hN; clear al hN
 try simp only [World.size_alloc] at xa
 obtain ⟨al, xr, hN⟩ := mk hB #[.bool false, .slice none 0 0] 24
 replace xa := xa.on al; replace hB := hN; clear al hN
 try simp only [World.size_alloc] at xr
 go_enter Tryz.func79, Tryz.ntmps79
 obtain ⟨al, xx, hN⟩ := mk hB #[.bool b, .slice a k c, .bool b', .slice a' k' c'] 101
 replace xa := xa.on al; replace xr := xr.on al; replace hB := hN; clear al hN
 try simp only [World.size_alloc] at xx
 have pa := xa.all4
 have pr := xr.all2
 have px := xx.all4
 go_wp2_with fail
 clear pa pr px
 refine (HV.out _ hB).mono ?_
 rintro e w1 ⟨rfl, hb⟩
 replace xa := xa.on hb; replace xr := xr.on hb; replace xx := xx.on hb
 have hz1 := hb.size
 try simp at hz1
 replace hB := hB.trans (hb.mono hB.size); clear hb xa
 have pr := xr.all2
 have px := xx.all4
 go_wp2_with fail
 clear pr px
 refine (HD.out _ hB).mono ?_
 rintro e w2 ⟨⟨vq, vr, rfl, gA, gB⟩, hb⟩
 obtain ⟨b5, a5, k5, c5, rfl⟩ := gA.num.opened
 obtain ⟨b6, a6, k6, c6, rfl⟩ := gB.num.opened
 replace gA := gA.num; replace gB := gB.num; replace xr := xr.on hb; replace xx := xx.on hb
 have hz2 := hb.size
 try simp at hz2
 replace hB := hB.trans (hb.mono hB.size); clear hb xx HV HD
 obtain ⟨al, xA, hN⟩ := mk hB #[.bool b5, .slice a5 k5 c5] 24
 replace xr := xr.on al; replace gA := gA.on al; replace gB := gB.on al; replace hB := hN; clear al hN
 try simp only [World.size_alloc] at xA
 obtain ⟨al, xB, hN⟩ := mk hB #[.bool b6, .slice a6 k6 c6] 24
 replace xr := xr.on al; replace xA := xA.on al; replace gA := gA.on al; replace gB := gB.on al; replace hB := hN; clear al hN
 try simp only [World.size_alloc] at xB
 have pr := xr.all2
 have pA := xA.all2
 have pB := xB.all2
 go_wp2_with fail
 clear pr pA pB
 refine (HZ.out _ _ gB).mono ?_
 rintro e w3 ⟨rfl, hb⟩
 replace xr := xr.on hb; replace xA := xA.on hb; replace xB := xB.on hb; replace gA := gA.on hb; replace gB := gB.on hb
 have hz3 := hb.size
 try simp at hz3
 replace hB := hB.trans (hb.mono hB.size); clear hb gB HZ
 have pr := xr.all2
 have pA := xA.all2
 have pB := xB.all2
 go_wp2_with fail
 clear pr pA pB xB
 have qA := xA.lt
 obtain ⟨gA0, gA1⟩ := xA.cells2
 refine wp_region_noPanic ?_
 refine wp_region_held_drew (S := (fun w' => w'.cell? ⟨w2.heap.size, 0, none⟩ = some (.bool b5) ∧ w'.cell? ⟨w2.heap.size, 1, none⟩ = some (.slice a5 k5 c5))) (by kernel_rfl) ⟨gA0, gA1⟩ (fun hR0 => ?_)
 change wpAnyH _ _ _ _ _ 5 #[false, false, false, false, false] _ _
 clear gA0 gA1
 refine tz 0 ?_
 (try simp only [Act.put, sa, List.set])
 refine rz 1 fun K hK => ?_
 go_simp
 go_at_call 19; have hBd := hB.drew; refine (H1.out _).mono ?_; rintro e w4 ⟨⟨v1, rfl, o1⟩, hb⟩; replace hb := (Below.refl w3.heap.size w3).drew.trans hb; obtain ⟨b7, a7, k7, c7, rfl⟩ := o1.num.opened; replace o1 := o1.num; replace xr := xr.on hb; replace xA := xA.on hb; replace gA := gA.on hb; replace hB := hB.trans (hb.mono hB.size); have hz4 := hb.size
 (try go_wp2_with fail)
 refine hK.out _ _ (⟨(hb.cell (p := ⟨w2.heap.size, 0, none⟩) qA).trans hR0.1, (hb.cell (p := ⟨w2.heap.size, 1, none⟩) qA).trans hR0.2⟩) (fun hR1 => ?_)
 clear hK K hR0
 (try simp only [Act.put, sa, List.set])
 replace qA := Nat.lt_of_lt_of_le qA hz4; clear hb hBd
 refine rz 2 fun K hK => ?_
 go_simp
 go_at_call 147; have hBd := hB; refine (HP.out _ _ _ gA o1).mono ?_; rintro e w5 ⟨⟨v2, rfl, o2⟩, hb⟩; obtain ⟨b8, a8, k8, c8, rfl⟩ := o2.num.opened; replace o2 := o2.num; replace xr := xr.on hb; replace xA := xA.on hb; replace hB := hB.trans (hb.mono hB.size); have hz5 := hb.size
 (try go_wp2_with fail)
 refine hK.out _ _ (⟨(hb.cell (p := ⟨w2.heap.size, 0, none⟩) qA).trans hR1.1, (hb.cell (p := ⟨w2.heap.size, 1, none⟩) qA).trans hR1.2⟩) (fun hR2 => ?_)
 clear hK K hR1
 (try simp only [Act.put, sa, List.set])
 replace qA := Nat.lt_of_lt_of_le qA hz5; clear hb hBd
 have pr := xr.all2
 refine rz 3 fun K hK => ?_
 go_simp
 refine hK.out _ _ (⟨cell_store hR2.1 (by omega), cell_store hR2.2 (by omega)⟩) (fun hR3 => ?_)
 clear hK K hR2
 (try simp only [Act.put, sa, List.set])
 clear pr; replace o2 := o2.setB xr rfl 0 (.bool b8); replace xA := xA.put_other (w.heap.size + 1) 0 (.bool b8) (by omega)
 replace xr : Bk _ (w.heap.size + 1) #[.bool b8, .slice none 0 0] _ := xr.put 0 (.bool b8)
 replace hB := hB.setCell (p := ⟨w.heap.size + 1, 0, none⟩) (by first | omega | (simp; omega) | simp) (.bool b8); replace o2 := o2.setB xr rfl 1 (.slice a8 k8 c8); replace xA := xA.put_other (w.heap.size + 1) 1 (.slice a8 k8 c8) (by omega)
 replace xr : Bk _ (w.heap.size + 1) #[.bool b8, .slice a8 k8 c8] _ := xr.put 1 (.slice a8 k8 c8)
 replace hB := hB.setCell (p := ⟨w.heap.size + 1, 1, none⟩) (by first | omega | (simp; omega) | simp) (.slice a8 k8 c8)
 refine tz 4 ?_
 (try simp only [Act.put, sa, List.set])
 refine wpAnyH_done (by kernel_rfl) ?_ _
 refine NoPanic.normal ?_
 clear hR3 qA xA
 generalize ((w5.setCell ⟨w.heap.size + 1, 0, none⟩ (.bool b8)).setCell ⟨w.heap.size + 1, 1, none⟩ (.slice a8 k8 c8)) = WF at *
 have pr := xr.all2
 go_wp2
 exact bodyPost_ret (v := .tuple #[.agg #[.bool b8, .slice a8 k8 c8], .int .i64 0]) (by simp [results, Tryz.results79, go_sem, pr]) rfl ⟨⟨_, rfl, o2⟩, hB⟩
end Go.Proofs.YtmbcnfogjncdaaaGreat
namespace Go.Proofs.YtmbcnfogjncdaaaGreat
open Go.RowKit Wh
theorem Bk.all7 {W B x0 x1 x2 x3 x4 x5 x6 T} (h : Bk W B #[x0, x1, x2, x3, x4, x5, x6] T) : W.cell? ⟨B, 0, none⟩ = some x0 ∧ W.frozen? ⟨B, 0, none⟩ = false ∧ W.cell? ⟨B, 1, none⟩ = some x1 ∧ W.frozen? ⟨B, 1, none⟩ = false ∧ W.cell? ⟨B, 2, none⟩ = some x2 ∧ W.frozen? ⟨B, 2, none⟩ = false ∧ W.cell? ⟨B, 3, none⟩ = some x3 ∧ W.frozen? ⟨B, 3, none⟩ = false ∧ W.cell? ⟨B, 4, none⟩ = some x4 ∧ W.frozen? ⟨B, 4, none⟩ = false ∧ W.cell? ⟨B, 5, none⟩ = some x5 ∧ W.frozen? ⟨B, 5, none⟩ = false ∧ W.cell? ⟨B, 6, none⟩ = some x6 ∧ W.frozen? ⟨B, 6, none⟩ = false := ⟨h.cell 0, h.free 0, h.cell 1, h.free 1, h.cell 2, h.free 2, h.cell 3, h.free 3, h.cell 4, h.free 4, h.cell 5, h.free 5, h.cell 6, h.free 6⟩
theorem num_first {W : World} {b : Bool} {a : Option Addr} {k c : Nat} {z : Int} (h : Num W (.agg #[.bool b, .slice a k c]) z) (hz : z ≠ 0) : ∃ X o, a = some ⟨X, o, none⟩ ∧ X < W.heap.size ∧ W.cell? ⟨X, o, none⟩ = some (.int .u16 ((z.natAbs % 65536 : Nat) : Int)) ∧ 1 ≤ k := by
 obtain ⟨s, e, h⟩ := h
 simp only [Value.agg.injEq, Array.mk.injEq, List.cons.injEq, Value.bool.injEq, and_true] at e
 obtain ⟨-, rfl⟩ := e
 have h0 : z.natAbs ≠ 0 := by omega
 have hd := dig_pos h0
 have hk : k = (dig z.natAbs).length := by obtain ⟨a', cap, e, -⟩ := h; cases e; rfl
 obtain ⟨X, o, rfl, hX, hc⟩ := h.block (by rw [hd]; exact List.cons_ne_nil _ _)
 have h1 := hc 0 (by rw [hd]; simp)
 rw [hd] at h1 hk
 exact ⟨X, o, rfl, hX, h1, by rw [hk]; simp⟩
theorem and_one_u16 (n : Nat) (h : n < 65536) : bits BinOp.and IntKind.u16 (n : Int) 1 = ((n % 2 : Nat) : Int) := by
 have hx : n &&& 1 < 2 ^ 16 := Nat.and_lt_two_pow _ (by omega)
 have h1 : (BitVec.ofInt 16 (n : Int)).toNat = n := by
  rw [BitVec.ofInt_natCast, BitVec.toNat_ofNat]; exact Nat.mod_eq_of_lt (by omega)
 have h2 : (BitVec.ofInt 16 (1 : Int)).toNat = 1 := by decide
 show IntKind.u16.wrap (((BitVec.ofInt 16 (n : Int)) &&& (BitVec.ofInt 16 1)).toNat : Int) = _
 rw [BitVec.toNat_and, h1, h2, Nat.and_one_is_mod, IntKind.wrap_u16]
 omega
theorem odd_bit (z : Int) : (bits BinOp.and IntKind.u16 ((z.natAbs : Int) % 65536) 1 == 1) = decide (z % 2 = 1) := by
 rw [show (z.natAbs : Int) % 65536 = ((z.natAbs % 65536 : Nat) : Int) from by omega, and_one_u16 _ (by omega)]
 rw [show decide (z % 2 = 1) = ((((z.natAbs % 65536 % 2 : Nat) : Int)) == 1) from ?_]
 rw [Bool.eq_iff_iff, decide_eq_true_iff, beq_iff_eq]
 omega
theorem negative_any (b : Bool) (a : Option Addr) (k c : Nat) (b' : Bool) (a' : Option Addr) (k' c' : Nat) (w : World) :
  Calls Tryz.prog 114 #[.agg #[.bool b, .slice a k c, .bool b', .slice a' k' c']] w fun e w' => e = .returned (.bool b) ∧ Below w.heap.size w w' := by
 have hB := Below.refl w.heap.size w
 obtain ⟨al, xa, hN⟩ := mk hB #[.bool b, .slice a k c, .bool b', .slice a' k' c'] 101
 replace hB := hN; clear al hN
 try simp only [World.size_alloc] at xa
 go_enter Tryz.func114, Tryz.ntmps114
 have pa := xa.all4
 have HB := Lib.hid hB
 clear hB
 go_wp2
 go_ret
 exact ⟨rfl, HB.out⟩
theorem odd_zero (b : Bool) (a : Option Addr) (k c : Nat) (b' : Bool) (a' : Option Addr) (k' c' : Nat) (bf : Bool) (af : Option Addr) (kf cf : Nat) (hf : Int) (fl : Int) (h0 : fl = 0) (w : World) (nf : Num w (.agg #[.bool bf, .slice af kf cf]) fl) :
  Calls Tryz.prog 207 #[.agg #[.bool b, .slice a k c, .bool b', .slice a' k' c', .bool bf, .slice af kf cf, .int .i64 hf]] w fun e w' => e = .returned (.bool (decide (fl % 2 = 1))) ∧ Below w.heap.size w w' := by
 have hz := fun W (hW : Below w.heap.size w W) => isZero_num _ fl W (nf.below hW (Nat.le_refl _))
 rw [show decide (fl = 0) = true from decide_eq_true h0] at hz
 have HZ := Lib.hid hz
 clear nf hz
 have hB := Below.refl w.heap.size w
 obtain ⟨al, xa, hN⟩ := mk hB #[.bool b, .slice a k c, .bool b', .slice a' k' c', .bool bf, .slice af kf cf, .int .i64 hf] 152
 replace hB := hN; clear al hN
 try simp only [World.size_alloc] at xa
 go_enter Tryz.func207, Tryz.ntmps207
 have pa := xa.all7
 go_wp2_with fail
 clear pa
 refine (HZ.out _ hB).mono ?_
 rintro e w1 ⟨rfl, hb⟩
 replace xa := xa.on hb
 have hz1 := hb.size
 try simp at hz1
 replace hB := hB.trans (hb.mono hB.size); clear hb
 have pa := xa.all7
 have HB := Lib.hid hB
 clear hB
 go_wp2
 go_ret
 exact ⟨by rw [h0]; rfl, HB.out⟩
theorem odd_ok (b : Bool) (a : Option Addr) (k c : Nat) (b' : Bool) (a' : Option Addr) (k' c' : Nat) (bf : Bool) (af : Option Addr) (kf cf : Nat) (hf : Int) (fl : Int) (h0 : fl ≠ 0) (w : World) (nf : Num w (.agg #[.bool bf, .slice af kf cf]) fl) :
  Calls Tryz.prog 207 #[.agg #[.bool b, .slice a k c, .bool b', .slice a' k' c', .bool bf, .slice af kf cf, .int .i64 hf]] w fun e w' => e = .returned (.bool (decide (fl % 2 = 1))) ∧ Below w.heap.size w w' := by
 have hz := fun W (hW : Below w.heap.size w W) => isZero_num _ fl W (nf.below hW (Nat.le_refl _))
 rw [show decide (fl = 0) = false from decide_eq_false h0] at hz
 have HZ := Lib.hid hz
 obtain ⟨X, o, rfl, hX, hc, hk⟩ := num_first nf h0
 obtain ⟨m, rfl⟩ : ∃ m, kf = m + 1 := ⟨kf - 1, by omega⟩
 clear hk nf hz
 have hB := Below.refl w.heap.size w
 obtain ⟨al, xa, hN⟩ := mk hB #[.bool b, .slice a k c, .bool b', .slice a' k' c', .bool bf, .slice (some ⟨X, o, none⟩) (m + 1) cf, .int .i64 hf] 152
 replace hB := hN; clear al hN
 try simp only [World.size_alloc] at xa
 replace hc := (hB.cell (p := ⟨X, o, none⟩) hX).trans hc
 go_enter Tryz.func207, Tryz.ntmps207
 have pa := xa.all7
 go_wp2_with fail
 clear pa
 refine (HZ.out _ hB).mono ?_
 rintro e w1 ⟨rfl, hb⟩
 replace hc := (hb.cell (p := ⟨X, o, none⟩) (Nat.lt_of_lt_of_le hX (by simp))).trans hc; replace xa := xa.on hb
 have hz1 := hb.size
 try simp at hz1
 replace hB := hB.trans (hb.mono hB.size); clear hb
 have pa := xa.all7
 have HB := Lib.hid hB
 clear hB
 go_wp2
 go_ret
 refine ⟨?_, HB.out⟩
 show Ending.returned (.bool (bits BinOp.and IntKind.u16 ((fl.natAbs : Int) % 65536) 1 == 1)) = _
 rw [odd_bit]
theorem odd_any (b : Bool) (a : Option Addr) (k c : Nat) (b' : Bool) (a' : Option Addr) (k' c' : Nat) (bf : Bool) (af : Option Addr) (kf cf : Nat) (hf : Int) (fl : Int) (w : World) (nf : Num w (.agg #[.bool bf, .slice af kf cf]) fl) :
  Calls Tryz.prog 207 #[.agg #[.bool b, .slice a k c, .bool b', .slice a' k' c', .bool bf, .slice af kf cf, .int .i64 hf]] w fun e w' => e = .returned (.bool (decide (fl % 2 = 1))) ∧ Below w.heap.size w w' := by
 by_cases h : fl = 0
 · exact odd_zero _ _ _ _ _ _ _ _ _ _ _ _ _ fl h w nf
 · exact odd_ok _ _ _ _ _ _ _ _ _ _ _ _ _ fl h w nf
theorem mode1_any (b : Bool) (a : Option Addr) (k c : Nat) (b' : Bool) (a' : Option Addr) (k' c' : Nat) (bf : Bool) (af : Option Addr) (kf cf : Nat) (hf : Int) (B : Nat) (w : World) (xb : Bk w B #[.bool b, .slice a k c, .bool b', .slice a' k' c', .bool bf, .slice af kf cf, .int .i64 hf] 152) :
  Calls Tryz.prog 201 #[.pointer (some ⟨B, 0, none⟩)] w fun e w' => e = .returned (.bool (b)) ∧ Below w.heap.size w w' := by
 have HN := Lib.hid (negative_any b a k c b' a' k' c' w)
 go_enter Tryz.func201, Tryz.ntmps201
 have pb := xb.all7
 go_wp2_with fail
 refine HN.out.mono ?_
 rintro e w1 ⟨rfl, hb⟩
 have HB := Lib.hid hb
 clear hb
 go_wp2
 go_ret
 exact ⟨by first | rfl | simp, HB.out⟩
theorem mode2_any (b : Bool) (a : Option Addr) (k c : Nat) (b' : Bool) (a' : Option Addr) (k' c' : Nat) (bf : Bool) (af : Option Addr) (kf cf : Nat) (hf : Int) (B : Nat) (w : World) (xb : Bk w B #[.bool b, .slice a k c, .bool b', .slice a' k' c', .bool bf, .slice af kf cf, .int .i64 hf] 152) :
  Calls Tryz.prog 202 #[.pointer (some ⟨B, 0, none⟩)] w fun e w' => e = .returned (.bool (!b)) ∧ Below w.heap.size w w' := by
 have HN := Lib.hid (negative_any b a k c b' a' k' c' w)
 go_enter Tryz.func202, Tryz.ntmps202
 have pb := xb.all7
 go_wp2_with fail
 refine HN.out.mono ?_
 rintro e w1 ⟨rfl, hb⟩
 have HB := Lib.hid hb
 clear hb
 go_wp2
 go_ret
 exact ⟨by first | rfl | simp, HB.out⟩
theorem mode3_any (w : World) :
  Calls Tryz.prog 203 #[] w fun e w' => e = .returned (.bool (false)) ∧ Below w.heap.size w w' := by
 go_enter Tryz.func203, Tryz.ntmps203
 go_wp2
 go_ret
 exact ⟨rfl, Below.refl _ _⟩
theorem mode4_any (w : World) :
  Calls Tryz.prog 204 #[] w fun e w' => e = .returned (.bool (true)) ∧ Below w.heap.size w w' := by
 go_enter Tryz.func204, Tryz.ntmps204
 go_wp2
 go_ret
 exact ⟨rfl, Below.refl _ _⟩
theorem mode5_any (b : Bool) (a : Option Addr) (k c : Nat) (b' : Bool) (a' : Option Addr) (k' c' : Nat) (bf : Bool) (af : Option Addr) (kf cf : Nat) (hf : Int) (r2 d : Int) (hhf : hf = cmpI r2 d) (B : Nat) (w : World) (xb : Bk w B #[.bool b, .slice a k c, .bool b', .slice a' k' c', .bool bf, .slice af kf cf, .int .i64 hf] 152) :
    Calls Tryz.prog 205 #[.pointer (some ⟨B, 0, none⟩)] w fun e w' => e = .returned (.bool (decide (d < r2) || (decide (r2 = d) && !b))) ∧ Below w.heap.size w w' := by
  have HN := Lib.hid (negative_any b a k c b' a' k' c' w)
  unfold cmpI at hhf
  rcases Int.lt_trichotomy r2 d with hc | hc | hc
  · rw [if_pos hc] at hhf; subst hhf; rw [show decide (d < r2) = false from decide_eq_false (by omega), show decide (r2 = d) = false from decide_eq_false (by omega)]
    clear hc
    go_enter Tryz.func205, Tryz.ntmps205
    have pb := xb.all7
    go_wp2
    go_ret
    exact ⟨by first | rfl | simp, Below.refl _ _⟩
  · rw [if_neg (by omega), if_neg (by omega)] at hhf; subst hhf; rw [show decide (d < r2) = false from decide_eq_false (by omega), show decide (r2 = d) = true from decide_eq_true hc]
    clear hc
    go_enter Tryz.func205, Tryz.ntmps205
    have pb := xb.all7
    go_wp2_with fail
    refine HN.out.mono ?_
    rintro e w1 ⟨rfl, hb⟩
    have HB := Lib.hid hb
    clear hb
    go_wp2
    go_ret
    exact ⟨by first | rfl | simp, HB.out⟩
  · rw [if_neg (by omega), if_pos hc] at hhf; subst hhf; rw [show decide (d < r2) = true from decide_eq_true hc]
    clear hc
    go_enter Tryz.func205, Tryz.ntmps205
    have pb := xb.all7
    go_wp2
    go_ret
    exact ⟨by first | rfl | simp, Below.refl _ _⟩
theorem mode6_any (b : Bool) (a : Option Addr) (k c : Nat) (b' : Bool) (a' : Option Addr) (k' c' : Nat) (bf : Bool) (af : Option Addr) (kf cf : Nat) (hf : Int) (fl r2 d : Int) (hhf : hf = cmpI r2 d) (B : Nat) (w : World) (xb : Bk w B #[.bool b, .slice a k c, .bool b', .slice a' k' c', .bool bf, .slice af kf cf, .int .i64 hf] 152) (nf : Num w (.agg #[.bool bf, .slice af kf cf]) fl) :
    Calls Tryz.prog 206 #[.pointer (some ⟨B, 0, none⟩)] w fun e w' => e = .returned (.bool (decide (d < r2) || (decide (r2 = d) && decide (fl % 2 = 1)))) ∧ Below w.heap.size w w' := by
  have HO := Lib.hid (odd_any b a k c b' a' k' c' bf af kf cf hf fl w nf)
  clear nf
  unfold cmpI at hhf
  rcases Int.lt_trichotomy r2 d with hc | hc | hc
  · rw [if_pos hc] at hhf; subst hhf; rw [show decide (d < r2) = false from decide_eq_false (by omega), show decide (r2 = d) = false from decide_eq_false (by omega)]
    clear hc
    go_enter Tryz.func206, Tryz.ntmps206
    have pb := xb.all7
    go_wp2
    go_ret
    exact ⟨by first | rfl | simp, Below.refl _ _⟩
  · rw [if_neg (by omega), if_neg (by omega)] at hhf; subst hhf; rw [show decide (d < r2) = false from decide_eq_false (by omega), show decide (r2 = d) = true from decide_eq_true hc]
    clear hc
    go_enter Tryz.func206, Tryz.ntmps206
    have pb := xb.all7
    go_wp2_with fail
    refine HO.out.mono ?_
    rintro e w1 ⟨rfl, hb⟩
    have HB := Lib.hid hb
    clear hb
    go_wp2
    go_ret
    exact ⟨by first | rfl | simp, HB.out⟩
  · rw [if_neg (by omega), if_pos hc] at hhf; subst hhf; rw [show decide (d < r2) = true from decide_eq_true hc]
    clear hc
    go_enter Tryz.func206, Tryz.ntmps206
    have pb := xb.all7
    go_wp2
    go_ret
    exact ⟨by first | rfl | simp, Below.refl _ _⟩
theorem modes_any (b : Bool) (a : Option Addr) (k c : Nat) (b' : Bool) (a' : Option Addr) (k' c' : Nat) (bf : Bool) (af : Option Addr) (kf cf : Nat) (hf : Int) (w : World) :
  Calls Tryz.prog 160 #[.agg #[.bool b, .slice a k c, .bool b', .slice a' k' c', .bool bf, .slice af kf cf, .int .i64 hf]] w fun e w' => e = .returned (.agg #[.nilFunc, .func (.func 201) #[] #[.pointer (some ⟨w.heap.size, 0, none⟩)], .func (.func 202) #[] #[.pointer (some ⟨w.heap.size, 0, none⟩)], .func (.func 203) #[] #[], .func (.func 204) #[] #[], .func (.func 205) #[] #[.pointer (some ⟨w.heap.size, 0, none⟩)], .func (.func 206) #[] #[.pointer (some ⟨w.heap.size, 0, none⟩)]]) ∧ Bk w' w.heap.size #[.bool b, .slice a k c, .bool b', .slice a' k' c', .bool bf, .slice af kf cf, .int .i64 hf] 152 ∧ Below w.heap.size w w' := by
 have hB := Below.refl w.heap.size w
 obtain ⟨al, xb, hN⟩ := mk hB #[.bool b, .slice a k c, .bool b', .slice a' k' c', .bool bf, .slice af kf cf, .int .i64 hf] 152
 replace hB := hN; clear al hN
 try simp only [World.size_alloc] at xb
 have al := (Below.refl _ (w.alloc (.cells #[.bool b, .slice a k c, .bool b', .slice a' k' c', .bool bf, .slice af kf cf, .int .i64 hf] 152))).alloc (Nat.le_refl _) (.cells #[.nilFunc, .func (.func 201) #[] #[.pointer (some ⟨w.heap.size, 0, none⟩)], .func (.func 202) #[] #[.pointer (some ⟨w.heap.size, 0, none⟩)], .func (.func 203) #[] #[], .func (.func 204) #[] #[], .func (.func 205) #[] #[.pointer (some ⟨w.heap.size, 0, none⟩)], .func (.func 206) #[] #[.pointer (some ⟨w.heap.size, 0, none⟩)]] 149)
 replace xb := xb.on al; replace hB := hB.alloc hB.size (.cells #[.nilFunc, .func (.func 201) #[] #[.pointer (some ⟨w.heap.size, 0, none⟩)], .func (.func 202) #[] #[.pointer (some ⟨w.heap.size, 0, none⟩)], .func (.func 203) #[] #[], .func (.func 204) #[] #[], .func (.func 205) #[] #[.pointer (some ⟨w.heap.size, 0, none⟩)], .func (.func 206) #[] #[.pointer (some ⟨w.heap.size, 0, none⟩)]] 149)
 have xr := Bk.new (w.alloc (.cells #[.bool b, .slice a k c, .bool b', .slice a' k' c', .bool bf, .slice af kf cf, .int .i64 hf] 152)) #[.nilFunc, .func (.func 201) #[] #[.pointer (some ⟨w.heap.size, 0, none⟩)], .func (.func 202) #[] #[.pointer (some ⟨w.heap.size, 0, none⟩)], .func (.func 203) #[] #[], .func (.func 204) #[] #[], .func (.func 205) #[] #[.pointer (some ⟨w.heap.size, 0, none⟩)], .func (.func 206) #[] #[.pointer (some ⟨w.heap.size, 0, none⟩)]] 149
 clear al
 try simp only [World.size_alloc] at xr
 go_enter Tryz.func160, Tryz.ntmps160
 have pb := xb.all7
 have pr := xr.all7
 go_wp2_with fail
 exact bodyPost_ret (v := .agg #[.nilFunc, .func (.func 201) #[] #[.pointer (some ⟨w.heap.size, 0, none⟩)], .func (.func 202) #[] #[.pointer (some ⟨w.heap.size, 0, none⟩)], .func (.func 203) #[] #[], .func (.func 204) #[] #[], .func (.func 205) #[] #[.pointer (some ⟨w.heap.size, 0, none⟩)], .func (.func 206) #[] #[.pointer (some ⟨w.heap.size, 0, none⟩)]]) (by simp [results, Tryz.results160, go_sem, pr]) rfl ⟨rfl, xb, hB⟩
end Go.Proofs.YtmbcnfogjncdaaaGreat
