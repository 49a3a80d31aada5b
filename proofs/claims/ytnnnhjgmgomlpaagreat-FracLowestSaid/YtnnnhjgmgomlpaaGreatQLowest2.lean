/- A part of the proofs about fractions. -/
import Derived.Test.YtnnnhjgmgomlpaaGreatQz1
import Derived.Test.YtnnnhjgmgomlpaaGreatQz2
import Derived.Test.YtnnnhjgmgomlpaaGreatQz3
import Derived.Test.YtnnnhjgmgomlpaaGreatQz4
import Derived.Test.YtnnnhjgmgomlpaaGreatQz5
import Derived.Test.YtnnnhjgmgomlpaaGreatQz6
import Derived.Test.YtnnnhjgmgomlpaaGreatQz7
import Derived.Test.YtnnnhjgmgomlpaaGreatQz8
import Derived.Test.YtnnnhjgmgomlpaaGreatQz9
import Derived.Test.YtnnnhjgmgomlpaaGreatQz10
import Derived.Test.YtnnnhjgmgomlpaaGreatQz11
import Derived.Test.YtnnnhjgmgomlpaaGreatQz12
import Derived.Test.YtnnnhjgmgomlpaaGreatQz13
import Derived.Test.YtnnnhjgmgomlpaaGreatQz14
import Derived.Test.YtnnnhjgmgomlpaaGreatQz15
import Derived.Test.YtnnnhjgmgomlpaaGreatQz16
import Derived.Test.YtnnnhjgmgomlpaaGreatQz17
import Derived.Test.YtnnnhjgmgomlpaaGreatQz18
import Derived.Test.YtnnnhjgmgomlpaaGreatQz19
import Derived.Test.YtnnnhjgmgomlpaaGreatQz20
import Derived.Test.YtnnnhjgmgomlpaaGreatQz21
import Derived.Test.YtnnnhjgmgomlpaaGreatQz22
import Derived.Test.YtnnnhjgmgomlpaaGreatQz23
import Derived.Test.YtnnnhjgmgomlpaaGreatQz24
import Derived.Test.YtnnnhjgmgomlpaaGreatQz25
import Derived.Test.YtnnnhjgmgomlpaaGreatQz26
import Derived.Test.YtnnnhjgmgomlpaaGreatQz27
import Derived.Test.YtnnnhjgmgomlpaaGreatQz28
import Derived.Test.YtnnnhjgmgomlpaaGreatQz29
import Derived.Test.YtnnnhjgmgomlpaaGreatQz30
import Derived.Test.YtnnnhjgmgomlpaaGreatQz31
import Derived.Test.YtnnnhjgmgomlpaaGreatRows
import Derived.Test.YtnnnhjgmgomlpaaGreatQLowest1
namespace Go.Proofs.YtnnnhjgmgomlpaaGreat
open Go.RowKit Wh
theorem Mul_num (va vb : Value) (a b z : Int) (hz : a * b = z) (ha : (dig a.natAbs).length ≤ 1024) (hb : (dig b.natAbs).length ≤ 1024) (hlen : (dig z.natAbs).length ≤ 1024) (w : World) (h : Num w va a) (g : Num w vb b) :
    Calls Tryz.prog 55 #[va, vb] w fun e w' => (∃ v, e = .returned (.tuple #[v, .int .i64 0]) ∧ Num w' v z) ∧ Below w.heap.size w w' := by
  subst hz
  exact (Mul_ok va vb a b ha hb w h g hlen).mono fun _ _ ⟨⟨v, he, q⟩, hb⟩ => ⟨⟨v, he, q.num⟩, hb⟩
theorem cross {n d : Int} (hd : d ≠ 0) : (Rat.divInt n d).num * d = n * ((Rat.divInt n d).den : Int) := by
  obtain ⟨h1, h2⟩ := Fq.parts (n := n) (d := d) hd
  generalize Fq.cf n d = c at *
  generalize (Rat.divInt n d).num = x at *
  generalize ((Rat.divInt n d).den : Int) = y at *
  rw [h1, h2]; grind
theorem ref2Same_zero (w : World) : Calls Tryz.prog 22 #[.agg #[.bool false, .slice none 0 0, .bool false, .slice none 0 0], .agg #[.bool false, .slice none 0 0, .bool false, .slice none 0 0]] w fun e w' => e = .returned (.bool true) ∧ Below w.heap.size w w' :=
  ref2Same_raw false none 0 0 false none 0 0 false none 0 0 false none 0 0 [] [] [] [] w (Lim.nil w) (Lim.nil w) (Lim.nil w) (Lim.nil w)
set_option maxRecDepth 100000 in
set_option maxHeartbeats 8000000 in
theorem FracLowest_core (a b : Rat) (sa : Fz 40 40 a) (sb : Fz 40 40 b) (bia : Bool) (aia : Option Addr) (kia cia : Nat) (dia : Bool) (eia : Option Addr) (lia mia : Nat) (bib : Bool) (aib : Option Addr) (kib cib : Nat) (dib : Bool) (eib : Option Addr) (lib mib : Nat) (n : Int) (d : Int) (f : Int) (sn : Sz 40 n) (sd : Sz 40 d) (sf : Sz 40 f) (bjn : Bool) (ajn : Option Addr) (kjn cjn : Nat) (bjd : Bool) (ajd : Option Addr) (kjd cjd : Nat) (bjf : Bool) (ajf : Option Addr) (kjf cjf : Nat) (w : World) (ia : Fra w (.agg #[.bool bia, .slice aia kia cia, .bool dia, .slice eia lia mia]) a) (ib : Fra w (.agg #[.bool bib, .slice aib kib cib, .bool dib, .slice eib lib mib]) b) (jn : Num w (.agg #[.bool bjn, .slice ajn kjn cjn]) n) (jd : Num w (.agg #[.bool bjd, .slice ajd kjd cjd]) d) (jf : Num w (.agg #[.bool bjf, .slice ajf kjf cjf]) f) :
    Calls Tryz.prog 8 #[.agg #[.bool bia, .slice aia kia cia, .bool dia, .slice eia lia mia], .agg #[.bool bib, .slice aib kib cib, .bool dib, .slice eib lib mib], .agg #[.bool bjn, .slice ajn kjn cjn], .agg #[.bool bjd, .slice ajd kjd cjd], .agg #[.bool bjf, .slice ajf kjf cjf]] w fun e w' => e = .returned (.bool true) ∧ Below w.heap.size w w' := by
  have fa : Fz 256 256 a := sa.mono (by decide) (by decide)
  have fb : Fz 256 256 b := sb.mono (by decide) (by decide)
  have HVn := Lib.hid (fun va W (h : Num W va n) => Valid_num va n (sn.len (by decide)) W h)
  have HVd := Lib.hid (fun va W (h : Num W va d) => Valid_num va d (sd.len (by decide)) W h)
  have HVf := Lib.hid (fun va W (h : Num W va f) => Valid_num va f (sf.len (by decide)) W h)
  have tjn : ¬ 40 < (kjn : Int) := by have h1 := (num_len jn).1; have h2 := sn.len2; omega
  have tjd : ¬ 40 < (kjd : Int) := by have h1 := (num_len jd).1; have h2 := sd.len2; omega
  have tjf : ¬ 40 < (kjf : Int) := by have h1 := (num_len jf).1; have h2 := sf.len2; omega
  have fv1 : Fz 256 256 (a + b) := (Fz.add sa sb).mono (by decide) (by decide)
  have HV1 := Lib.hid (fun va W (h : Fra W va (a + b)) => frValid_lit va _ fv1 W h)
  clear fv1
  have fv2 : Fz 256 256 (a * b) := (Fz.mul sa sb).mono (by decide) (by decide)
  have HV2 := Lib.hid (fun va W (h : Fra W va (a * b)) => frValid_lit va _ fv2 W h)
  clear fv2
  have fv3 : Fz 256 256 (a - b) := (Fz.sub sa sb).mono (by decide) (by decide)
  have HV3 := Lib.hid (fun va W (h : Fra W va (a - b)) => frValid_lit va _ fv3 W h)
  clear fv3
  obtain ⟨o, ho⟩ : ∃ o, o = cmpR a b := ⟨_, rfl⟩
  have hsm : (o == 0) = decide (a = b) := by
    rw [ho]; rcases cmpR_cases a b with h | h | h
    · rw [cmpR_lt h, decide_eq_false (by grind)]; rfl
    · rw [cmpR_same h, decide_eq_true h]; rfl
    · rw [cmpR_gt h, decide_eq_false (by grind)]; rfl
  obtain ⟨sm, es⟩ : ∃ s, s = decide (a = b) := ⟨_, rfl⟩
  rw [← es] at hsm
  have HC := Lib.hid (fun va vb W (h : Fra W va a) (k : Fra W vb b) => frCmp_lit va vb a b o ho.symm fa fb W h k)
  have HS := Lib.hid (fun va vb W (h : Fra W va a) (k : Fra W vb b) => frSame_lit va vb a b sm es.symm W h k)
  clear ho es fa fb
  have HK0 := Lib.hid (fun vx vy W (h : Fra W vx (a)) (g : Fra W vy (b)) => law2_sum_any vx vy (a) (b) (a + b) rfl (Fz.mono (q := a) sa (by decide) (by decide)) (Fz.mono (q := b) sb (by decide) (by decide)) (Fz.mono (q := (a + b)) (Fz.add sa sb) (by decide) (by decide)) W h g)
  have HK1 := Lib.hid (fun vx vy W (h : Fra W vx (a)) (g : Fra W vy (b)) => law2_product_any vx vy (a) (b) (a * b) rfl (Fz.mono (q := a) sa (by decide) (by decide)) (Fz.mono (q := b) sb (by decide) (by decide)) (Fz.mono (q := (a * b)) (Fz.mul sa sb) (by decide) (by decide)) W h g)
  have HK2 := Lib.hid (fun vx vy W (h : Fra W vx (a)) (g : Fra W vy (b)) => law2_less_any vx vy (a) (b) (a - b) rfl (Fz.mono (q := a) sa (by decide) (by decide)) (Fz.mono (q := b) sb (by decide) (by decide)) (Fz.mono (q := (a - b)) (Fz.sub sa sb) (by decide) (by decide)) W h g)
  have hB := Below.refl w.heap.size w
  obtain ⟨al, xia, hN⟩ := mk hB #[.bool bia, .slice aia kia cia, .bool dia, .slice eia lia mia] 26
  replace jn := jn.on al; replace jd := jd.on al; replace jf := jf.on al; replace ia := ia.on al; replace ib := ib.on al; replace hB := hN; clear al hN
  try simp only [World.size_alloc] at xia
  obtain ⟨al, xib, hN⟩ := mk hB #[.bool bib, .slice aib kib cib, .bool dib, .slice eib lib mib] 26
  replace xia := xia.on al; replace jn := jn.on al; replace jd := jd.on al; replace jf := jf.on al; replace ia := ia.on al; replace ib := ib.on al; replace hB := hN; clear al hN
  try simp only [World.size_alloc] at xib
  obtain ⟨al, xjn, hN⟩ := mk hB #[.bool bjn, .slice ajn kjn cjn] 24
  replace xia := xia.on al; replace xib := xib.on al; replace jn := jn.on al; replace jd := jd.on al; replace jf := jf.on al; replace ia := ia.on al; replace ib := ib.on al; replace hB := hN; clear al hN
  try simp only [World.size_alloc] at xjn
  obtain ⟨al, xjd, hN⟩ := mk hB #[.bool bjd, .slice ajd kjd cjd] 24
  replace xia := xia.on al; replace xib := xib.on al; replace xjn := xjn.on al; replace jn := jn.on al; replace jd := jd.on al; replace jf := jf.on al; replace ia := ia.on al; replace ib := ib.on al; replace hB := hN; clear al hN
  try simp only [World.size_alloc] at xjd
  obtain ⟨al, xjf, hN⟩ := mk hB #[.bool bjf, .slice ajf kjf cjf] 24
  replace xia := xia.on al; replace xib := xib.on al; replace xjn := xjn.on al; replace xjd := xjd.on al; replace jn := jn.on al; replace jd := jd.on al; replace jf := jf.on al; replace ia := ia.on al; replace ib := ib.on al; replace hB := hN; clear al hN
  try simp only [World.size_alloc] at xjf
  go_enter Tryz.func8, Tryz.ntmps8
  go_wp2_with fail
  refine (law2_awake_any _).mono ?_
  rintro e w1 ⟨rfl, hb⟩
  replace xia := xia.on hb; replace xib := xib.on hb; replace xjn := xjn.on hb; replace xjd := xjd.on hb; replace xjf := xjf.on hb; replace jn := jn.on hb; replace jd := jd.on hb; replace jf := jf.on hb; replace ia := ia.on hb; replace ib := ib.on hb
  have hz1 := hb.size
  try simp at hz1
  replace hB := hB.trans (hb.mono hB.size); clear hb
  have pia := xia.all4
  have pib := xib.all4
  have pjn := xjn.all2
  have pjd := xjd.all2
  have pjf := xjf.all2
  have ltia := xia.lt
  have ltib := xib.lt
  have ltjn := xjn.lt
  have ltjd := xjd.lt
  have ltjf := xjf.lt
  go_wp2_with fail
  clear ltia ltib ltjn ltjd ltjf pia pib pjn pjd pjf
  have hb := ((Below.refl w1.heap.size w1).alloc (Nat.le_refl _) (.cells #[.bool bia, .slice aia kia cia, .bool dia, .slice eia lia mia, .bool bib, .slice aib kib cib, .bool dib, .slice eib lib mib] 26))
  have xrow : Bk _ w1.heap.size #[.bool bia, .slice aia kia cia, .bool dia, .slice eia lia mia, .bool bib, .slice aib kib cib, .bool dib, .slice eib lib mib] 26 := (Bk.new w1 #[.bool bia, .slice aia kia cia, .bool dia, .slice eia lia mia, .bool bib, .slice aib kib cib, .bool dib, .slice eib lib mib] 26)
  replace xia := xia.on hb; replace xib := xib.on hb; replace xjn := xjn.on hb; replace xjd := xjd.on hb; replace xjf := xjf.on hb; replace jn := jn.on hb; replace jd := jd.on hb; replace jf := jf.on hb; replace ia := ia.on hb; replace ib := ib.on hb; replace hB := hB.trans (hb.mono hB.size); clear hb
  have rw0 := xrow.cell 0
  have rw1 := xrow.cell 1
  have rw2 := xrow.cell 2
  have rw3 := xrow.cell 3
  have rw4 := xrow.cell 4
  have rw5 := xrow.cell 5
  have rw6 := xrow.cell 6
  have rw7 := xrow.cell 7
  simp only [List.getElem?_toArray, List.getElem?_cons_zero, List.getElem?_cons_succ] at rw0 rw1 rw2 rw3 rw4 rw5 rw6 rw7
  refine (usable2_fra w1.heap.size a b bia aia kia cia dia eia lia mia bib aib kib cib dib eib lib mib _ rw0 rw1 rw2 rw3 rw4 rw5 rw6 rw7 ia ib sa sb).mono ?_
  rintro e w2 ⟨rfl, hb⟩
  clear xrow rw0 rw1 rw2 rw3 rw4 rw5 rw6 rw7; replace xia := xia.on hb; replace xib := xib.on hb; replace xjn := xjn.on hb; replace xjd := xjd.on hb; replace xjf := xjf.on hb; replace jn := jn.on hb; replace jd := jd.on hb; replace jf := jf.on hb; replace ia := ia.on hb; replace ib := ib.on hb; replace hB := hB.trans (hb.mono hB.size); clear hb
  have pia := xia.all4
  have pib := xib.all4
  have pjn := xjn.all2
  have pjd := xjd.all2
  have pjf := xjf.all2
  have ltia := xia.lt
  have ltib := xib.lt
  have ltjn := xjn.lt
  have ltjd := xjd.lt
  have ltjf := xjf.lt
  go_wp2_with fail
  clear ltia ltib ltjn ltjd ltjf pia pib pjn pjd pjf
  refine (HVn.out _ _ jn).mono ?_
  rintro e w3 ⟨rfl, hb⟩
  replace xia := xia.on hb; replace xib := xib.on hb; replace xjn := xjn.on hb; replace xjd := xjd.on hb; replace xjf := xjf.on hb; replace jn := jn.on hb; replace jd := jd.on hb; replace jf := jf.on hb; replace ia := ia.on hb; replace ib := ib.on hb
  have hz3 := hb.size
  try simp at hz3
  replace hB := hB.trans (hb.mono hB.size); clear hb
  have pia := xia.all4
  have pib := xib.all4
  have pjn := xjn.all2
  have pjd := xjd.all2
  have pjf := xjf.all2
  have ltia := xia.lt
  have ltib := xib.lt
  have ltjn := xjn.lt
  have ltjd := xjd.lt
  have ltjf := xjf.lt
  go_wp2_with fail
  clear ltia ltib ltjn ltjd ltjf pia pib pjn pjd pjf
  refine (HVd.out _ _ jd).mono ?_
  rintro e w4 ⟨rfl, hb⟩
  replace xia := xia.on hb; replace xib := xib.on hb; replace xjn := xjn.on hb; replace xjd := xjd.on hb; replace xjf := xjf.on hb; replace jn := jn.on hb; replace jd := jd.on hb; replace jf := jf.on hb; replace ia := ia.on hb; replace ib := ib.on hb
  have hz4 := hb.size
  try simp at hz4
  replace hB := hB.trans (hb.mono hB.size); clear hb
  have pia := xia.all4
  have pib := xib.all4
  have pjn := xjn.all2
  have pjd := xjd.all2
  have pjf := xjf.all2
  have ltia := xia.lt
  have ltib := xib.lt
  have ltjn := xjn.lt
  have ltjd := xjd.lt
  have ltjf := xjf.lt
  go_wp2_with fail
  clear ltia ltib ltjn ltjd ltjf pia pib pjn pjd pjf
  refine (HVf.out _ _ jf).mono ?_
  rintro e w5 ⟨rfl, hb⟩
  replace xia := xia.on hb; replace xib := xib.on hb; replace xjn := xjn.on hb; replace xjd := xjd.on hb; replace xjf := xjf.on hb; replace jn := jn.on hb; replace jd := jd.on hb; replace jf := jf.on hb; replace ia := ia.on hb; replace ib := ib.on hb
  have hz5 := hb.size
  try simp at hz5
  replace hB := hB.trans (hb.mono hB.size); clear hb
  go_wp2_with fail
  clear tjn tjd tjf
  have qia := xia.lt
  have qib := xib.lt
  obtain ⟨gia0, gia1, gia2, gia3⟩ := xia.cells4
  obtain ⟨gib0, gib1, gib2, gib3⟩ := xib.cells4
  refine wp_region_noPanic ?_
  refine wp_region_held_drew (S := (fun w' => (w'.cell? ⟨w.heap.size, 0, none⟩ = some (.bool bia) ∧ w'.cell? ⟨w.heap.size, 1, none⟩ = some (.slice aia kia cia) ∧ w'.cell? ⟨w.heap.size, 2, none⟩ = some (.bool dia) ∧ w'.cell? ⟨w.heap.size, 3, none⟩ = some (.slice eia lia mia)) ∧ w'.cell? ⟨w.heap.size + 1, 0, none⟩ = some (.bool bib) ∧ w'.cell? ⟨w.heap.size + 1, 1, none⟩ = some (.slice aib kib cib) ∧ w'.cell? ⟨w.heap.size + 1, 2, none⟩ = some (.bool dib) ∧ w'.cell? ⟨w.heap.size + 1, 3, none⟩ = some (.slice eib lib mib))) (by kernel_rfl) ⟨⟨gia0, gia1, gia2, gia3⟩, ⟨gib0, gib1, gib2, gib3⟩⟩ (fun hR0 => ?_)
  change wpAnyH _ _ _ _ _ 29 #[false, false, false, false, false, false, false, false, false, false, false, false, false, false, false, false, false, false, false, false, false, false, false, false, false, false, false, false, false] _ _
  clear gia0 gia1 gia2 gia3 gib0 gib1 gib2 gib3
  refine tk (i := 0) (v := ?_) rfl (by kernel_rfl) (fun _ _ _ h => h) (by rfl) ?_ (by assumption) ?_
  rotate_left 1
  · (intro w hSw; (try dsimp only at hSw); go_simp <;> (with_reducible rfl))
  (try simp only [Act.put, List.setIfInBounds_toArray, List.set])
  refine tk (i := 1) (v := ?_) rfl (by kernel_rfl) (fun _ _ _ h => h) (by rfl) ?_ (by assumption) ?_
  rotate_left 1
  · (intro w hSw; (try dsimp only at hSw); go_simp <;> (with_reducible rfl))
  (try simp only [Act.put, List.setIfInBounds_toArray, List.set])
  refine rd1 (i := 2) (by kernel_rfl) rfl (fun K hK => ?_)
  go_simp
  go_at_call 44; have hBd := hB.drew; refine (HK0.out _ _ _ (by exact ia) (by exact ib)).mono ?_; rintro e w6 ⟨⟨vg1, rfl, g1⟩, hb⟩; replace hb := (Below.refl w5.heap.size w5).drew.trans hb; replace xia := xia.on hb; replace xib := xib.on hb; replace xjn := xjn.on hb; replace xjd := xjd.on hb; replace xjf := xjf.on hb; replace jn := jn.on hb; replace jd := jd.on hb; replace jf := jf.on hb; replace ia := ia.on hb; replace ib := ib.on hb; replace hB := hB.trans (hb.mono hB.size); have hz6 := hb.size
  (try go_wp2_with fail)
  refine hK.out _ _ (⟨keep4 hb qia hR0.1, keep4 hb qib hR0.2⟩) (fun hR1 => ?_)
  clear hK K hR0
  (try simp only [List.setIfInBounds_toArray, List.set])
  replace qia := Nat.lt_of_lt_of_le qia hz6; replace qib := Nat.lt_of_lt_of_le qib hz6; clear hb hBd
  refine rd1 (i := 3) (by kernel_rfl) rfl (fun K hK => ?_)
  go_simp
  go_at_call 51; have hBd := hB; refine (HV1.out _ _ g1).mono ?_; rintro e w7 ⟨rfl, hb⟩; replace xia := xia.on hb; replace xib := xib.on hb; replace xjn := xjn.on hb; replace xjd := xjd.on hb; replace xjf := xjf.on hb; replace jn := jn.on hb; replace jd := jd.on hb; replace jf := jf.on hb; replace ia := ia.on hb; replace ib := ib.on hb; replace g1 := g1.on hb; replace hB := hB.trans (hb.mono hB.size); have hz7 := hb.size
  (try go_wp2_with fail)
  refine hK.out _ _ (⟨keep4 hb qia hR1.1, keep4 hb qib hR1.2⟩) (fun hR2 => ?_)
  clear hK K hR1
  (try simp only [List.setIfInBounds_toArray, List.set])
  replace qia := Nat.lt_of_lt_of_le qia hz7; replace qib := Nat.lt_of_lt_of_le qib hz7; clear hb hBd
  refine tk (i := 4) (v := ?_) rfl (by kernel_rfl) (fun _ _ _ h => h) (by rfl) ?_ (by assumption) ?_
  rotate_left 1
  · (intro w hSw; (try dsimp only at hSw); go_simp <;> (with_reducible rfl))
  (try simp only [Act.put, List.setIfInBounds_toArray, List.set])
  refine tk (i := 5) (v := ?_) rfl (by kernel_rfl) (fun _ _ _ h => h) (by rfl) ?_ (by assumption) ?_
  rotate_left 1
  · (intro w hSw; (try dsimp only at hSw); go_simp <;> (with_reducible rfl))
  (try simp only [Act.put, List.setIfInBounds_toArray, List.set])
  refine tk (i := 6) (v := ?_) rfl (by kernel_rfl) (fun _ _ _ h => h) (by rfl) ?_ (by assumption) ?_
  rotate_left 1
  · (intro w hSw; (try dsimp only at hSw); go_simp <;> (with_reducible rfl))
  (try simp only [Act.put, List.setIfInBounds_toArray, List.set])
  refine tk (i := 7) (v := ?_) rfl (by kernel_rfl) (fun _ _ _ h => h) (by rfl) ?_ (by assumption) ?_
  rotate_left 1
  · (intro w hSw; (try dsimp only at hSw); go_simp <;> (with_reducible rfl))
  (try simp only [Act.put, List.setIfInBounds_toArray, List.set])
  refine rd1 (i := 8) (by kernel_rfl) rfl (fun K hK => ?_)
  go_simp
  go_at_call 45; have hBd := hB; refine (HK1.out _ _ _ ia ib).mono ?_; rintro e w8 ⟨⟨vg2, rfl, g2⟩, hb⟩; replace xia := xia.on hb; replace xib := xib.on hb; replace xjn := xjn.on hb; replace xjd := xjd.on hb; replace xjf := xjf.on hb; replace jn := jn.on hb; replace jd := jd.on hb; replace jf := jf.on hb; replace ia := ia.on hb; replace ib := ib.on hb; replace g1 := g1.on hb; replace hB := hB.trans (hb.mono hB.size); have hz8 := hb.size
  (try go_wp2_with fail)
  refine hK.out _ _ (⟨keep4 hb qia hR2.1, keep4 hb qib hR2.2⟩) (fun hR3 => ?_)
  clear hK K hR2
  (try simp only [List.setIfInBounds_toArray, List.set])
  replace qia := Nat.lt_of_lt_of_le qia hz8; replace qib := Nat.lt_of_lt_of_le qib hz8; clear hb hBd
  refine rd1 (i := 9) (by kernel_rfl) rfl (fun K hK => ?_)
  go_simp
  go_at_call 51; have hBd := hB; refine (HV2.out _ _ g2).mono ?_; rintro e w9 ⟨rfl, hb⟩; replace xia := xia.on hb; replace xib := xib.on hb; replace xjn := xjn.on hb; replace xjd := xjd.on hb; replace xjf := xjf.on hb; replace jn := jn.on hb; replace jd := jd.on hb; replace jf := jf.on hb; replace ia := ia.on hb; replace ib := ib.on hb; replace g1 := g1.on hb; replace g2 := g2.on hb; replace hB := hB.trans (hb.mono hB.size); have hz9 := hb.size
  (try go_wp2_with fail)
  refine hK.out _ _ (⟨keep4 hb qia hR3.1, keep4 hb qib hR3.2⟩) (fun hR4 => ?_)
  clear hK K hR3
  (try simp only [List.setIfInBounds_toArray, List.set])
  replace qia := Nat.lt_of_lt_of_le qia hz9; replace qib := Nat.lt_of_lt_of_le qib hz9; clear hb hBd
  refine tk (i := 10) (v := ?_) rfl (by kernel_rfl) (fun _ _ _ h => h) (by rfl) ?_ (by assumption) ?_
  rotate_left 1
  · (intro w hSw; (try dsimp only at hSw); go_simp <;> (with_reducible rfl))
  (try simp only [Act.put, List.setIfInBounds_toArray, List.set])
  refine tk (i := 11) (v := ?_) rfl (by kernel_rfl) (fun _ _ _ h => h) (by rfl) ?_ (by assumption) ?_
  rotate_left 1
  · (intro w hSw; (try dsimp only at hSw); go_simp <;> (with_reducible rfl))
  (try simp only [Act.put, List.setIfInBounds_toArray, List.set])
  refine tk (i := 12) (v := ?_) rfl (by kernel_rfl) (fun _ _ _ h => h) (by rfl) ?_ (by assumption) ?_
  rotate_left 1
  · (intro w hSw; (try dsimp only at hSw); go_simp <;> (with_reducible rfl))
  (try simp only [Act.put, List.setIfInBounds_toArray, List.set])
  refine tk (i := 13) (v := ?_) rfl (by kernel_rfl) (fun _ _ _ h => h) (by rfl) ?_ (by assumption) ?_
  rotate_left 1
  · (intro w hSw; (try dsimp only at hSw); go_simp <;> (with_reducible rfl))
  (try simp only [Act.put, List.setIfInBounds_toArray, List.set])
  refine tk (i := 14) (v := ?_) rfl (by kernel_rfl) (fun _ _ _ h => h) (by rfl) ?_ (by assumption) ?_
  rotate_left 1
  · (intro w hSw; (try dsimp only at hSw); go_simp <;> (with_reducible rfl))
  (try simp only [Act.put, List.setIfInBounds_toArray, List.set])
  refine rd1 (i := 15) (by kernel_rfl) rfl (fun K hK => ?_)
  go_simp
  go_at_call 46; have hBd := hB; refine (HK2.out _ _ _ ia ib).mono ?_; rintro e w10 ⟨⟨vg3, rfl, g3⟩, hb⟩; replace xia := xia.on hb; replace xib := xib.on hb; replace xjn := xjn.on hb; replace xjd := xjd.on hb; replace xjf := xjf.on hb; replace jn := jn.on hb; replace jd := jd.on hb; replace jf := jf.on hb; replace ia := ia.on hb; replace ib := ib.on hb; replace g1 := g1.on hb; replace g2 := g2.on hb; replace hB := hB.trans (hb.mono hB.size); have hz10 := hb.size
  (try go_wp2_with fail)
  refine hK.out _ _ (⟨keep4 hb qia hR4.1, keep4 hb qib hR4.2⟩) (fun hR5 => ?_)
  clear hK K hR4
  (try simp only [List.setIfInBounds_toArray, List.set])
  replace qia := Nat.lt_of_lt_of_le qia hz10; replace qib := Nat.lt_of_lt_of_le qib hz10; clear hb hBd
  refine rd1 (i := 16) (by kernel_rfl) rfl (fun K hK => ?_)
  go_simp
  go_at_call 51; have hBd := hB; refine (HV3.out _ _ g3).mono ?_; rintro e w11 ⟨rfl, hb⟩; replace xia := xia.on hb; replace xib := xib.on hb; replace xjn := xjn.on hb; replace xjd := xjd.on hb; replace xjf := xjf.on hb; replace jn := jn.on hb; replace jd := jd.on hb; replace jf := jf.on hb; replace ia := ia.on hb; replace ib := ib.on hb; replace g1 := g1.on hb; replace g2 := g2.on hb; replace g3 := g3.on hb; replace hB := hB.trans (hb.mono hB.size); have hz11 := hb.size
  (try go_wp2_with fail)
  refine hK.out _ _ (⟨keep4 hb qia hR5.1, keep4 hb qib hR5.2⟩) (fun hR6 => ?_)
  clear hK K hR5
  (try simp only [List.setIfInBounds_toArray, List.set])
  replace qia := Nat.lt_of_lt_of_le qia hz11; replace qib := Nat.lt_of_lt_of_le qib hz11; clear hb hBd
  refine tk (i := 17) (v := ?_) rfl (by kernel_rfl) (fun _ _ _ h => h) (by rfl) ?_ (by assumption) ?_
  rotate_left 1
  · (intro w hSw; (try dsimp only at hSw); go_simp <;> (with_reducible rfl))
  (try simp only [Act.put, List.setIfInBounds_toArray, List.set])
  refine tk (i := 18) (v := ?_) rfl (by kernel_rfl) (fun _ _ _ h => h) (by rfl) ?_ (by assumption) ?_
  rotate_left 1
  · (intro w hSw; (try dsimp only at hSw); go_simp <;> (with_reducible rfl))
  (try simp only [Act.put, List.setIfInBounds_toArray, List.set])
  refine tk (i := 19) (v := ?_) rfl (by kernel_rfl) (fun _ _ _ h => h) (by rfl) ?_ (by assumption) ?_
  rotate_left 1
  · (intro w hSw; (try dsimp only at hSw); go_simp <;> (with_reducible rfl))
  (try simp only [Act.put, List.setIfInBounds_toArray, List.set])
  refine tk (i := 20) (v := ?_) rfl (by kernel_rfl) (fun _ _ _ h => h) (by rfl) ?_ (by assumption) ?_
  rotate_left 1
  · (intro w hSw; (try dsimp only at hSw); go_simp <;> (with_reducible rfl))
  (try simp only [Act.put, List.setIfInBounds_toArray, List.set])
  refine tk (i := 21) (v := ?_) rfl (by kernel_rfl) (fun _ _ _ h => h) (by rfl) ?_ (by assumption) ?_
  rotate_left 1
  · (intro w hSw; (try dsimp only at hSw); go_simp <;> (with_reducible rfl))
  (try simp only [Act.put, List.setIfInBounds_toArray, List.set])
  refine tk (i := 24) (v := ?_) rfl (by kernel_rfl) (fun _ _ _ h => h) (by rfl) ?_ (by assumption) ?_
  rotate_left 1
  · (intro w hSw; (try dsimp only at hSw); go_simp <;> (with_reducible rfl))
  (try simp only [Act.put, List.setIfInBounds_toArray, List.set])
  refine tk (i := 25) (v := ?_) rfl (by kernel_rfl) (fun _ _ _ h => h) (by rfl) ?_ (by assumption) ?_
  rotate_left 1
  · (intro w hSw; (try dsimp only at hSw); go_simp <;> (with_reducible rfl))
  (try simp only [Act.put, List.setIfInBounds_toArray, List.set])
  refine rd1 (i := 22) (by kernel_rfl) rfl (fun K hK => ?_)
  go_simp
  go_at_call 52; have hBd := hB; refine (HC.out _ _ _ ia ib).mono ?_; rintro e w12 ⟨rfl, hb⟩; replace xia := xia.on hb; replace xib := xib.on hb; replace xjn := xjn.on hb; replace xjd := xjd.on hb; replace xjf := xjf.on hb; replace jn := jn.on hb; replace jd := jd.on hb; replace jf := jf.on hb; replace ia := ia.on hb; replace ib := ib.on hb; replace g1 := g1.on hb; replace g2 := g2.on hb; replace g3 := g3.on hb; replace hB := hB.trans (hb.mono hB.size); have hz12 := hb.size
  (try go_wp2_with fail)
  refine hK.out _ _ (⟨keep4 hb qia hR6.1, keep4 hb qib hR6.2⟩) (fun hR7 => ?_)
  clear hK K hR6
  (try simp only [List.setIfInBounds_toArray, List.set])
  replace qia := Nat.lt_of_lt_of_le qia hz12; replace qib := Nat.lt_of_lt_of_le qib hz12; clear hb hBd
  refine tk (i := 23) (v := ?_) rfl (by kernel_rfl) (fun _ _ _ h => h) (by rfl) ?_ (by assumption) ?_
  rotate_left 1
  · (intro w hSw; (try dsimp only at hSw); go_simp <;> (with_reducible rfl))
  (try simp only [Act.put, List.setIfInBounds_toArray, List.set])
  refine rd1 (i := 26) (by kernel_rfl) rfl (fun K hK => ?_)
  go_simp
  go_at_call 53; have hBd := hB; refine (HS.out _ _ _ ia ib).mono ?_; rintro e w13 ⟨rfl, hb⟩; replace xia := xia.on hb; replace xib := xib.on hb; replace xjn := xjn.on hb; replace xjd := xjd.on hb; replace xjf := xjf.on hb; replace jn := jn.on hb; replace jd := jd.on hb; replace jf := jf.on hb; replace ia := ia.on hb; replace ib := ib.on hb; replace g1 := g1.on hb; replace g2 := g2.on hb; replace g3 := g3.on hb; replace hB := hB.trans (hb.mono hB.size); have hz13 := hb.size
  (try go_wp2_with fail)
  refine hK.out _ _ (⟨keep4 hb qia hR7.1, keep4 hb qib hR7.2⟩) (fun hR8 => ?_)
  clear hK K hR7
  (try simp only [List.setIfInBounds_toArray, List.set])
  replace qia := Nat.lt_of_lt_of_le qia hz13; replace qib := Nat.lt_of_lt_of_le qib hz13; clear hb hBd
  refine tk (i := 27) (v := ?_) rfl (by kernel_rfl) (fun _ _ _ h => h) (by rfl) ?_ (by assumption) ?_
  rotate_left 1
  · (intro w hSw; (try dsimp only at hSw); go_simp <;> (with_reducible rfl))
  (try simp only [Act.put, List.setIfInBounds_toArray, List.set])
  refine tk (i := 28) (v := ?_) rfl (by kernel_rfl) (fun _ _ _ h => h) (by rfl) ?_ (by assumption) ?_
  rotate_left 1
  · (intro w hSw; (try dsimp only at hSw); go_simp <;> (with_reducible rfl))
  (try simp only [Act.put, List.setIfInBounds_toArray, List.set])
  refine wpAnyH_done (by kernel_rfl) ?_ _
  refine NoPanic.normal ?_
  clear hR8 qia qib g1 g2 g3 hsm xia xib ia ib
  by_cases hd0 : d = 0
  · skip
    have hk := (num_len jd).1
    rw [hd0, show (0 : Int).natAbs = 0 from rfl, dig_zero, List.length_nil] at hk
    subst hk
    have HZ := Lib.hid (fun W (h : Num W (.agg #[.bool bjn, .slice ajn kjn cjn]) n) (k : Num W (.agg #[.bool bjd, .slice ajd 0 cjd]) 0) => Make_zero bjn ajn kjn cjn bjd ajd 0 cjd n (sn.mono (by decide)) W h k)
    rw [hd0] at jd
    have HR := Lib.hid (fun W => ref2Same_zero W)
    have pjn := xjn.all2
    have pjd := xjd.all2
    have pjf := xjf.all2
    have ltjn := xjn.lt
    have ltjd := xjd.lt
    have ltjf := xjf.lt
    go_wp2_with fail
    clear ltjn ltjd ltjf pjn pjd pjf
    refine (HZ.out _ jn jd).mono ?_
    rintro e w14 ⟨rfl, hb⟩
    replace xjn := xjn.on hb; replace xjd := xjd.on hb; replace xjf := xjf.on hb; replace jn := jn.on hb; replace jd := jd.on hb; replace jf := jf.on hb
    have hz14 := hb.size
    try simp at hz14
    replace hB := hB.trans (hb.mono hB.size); clear hb
    have pjn := xjn.all2
    have pjd := xjd.all2
    have pjf := xjf.all2
    have ltjn := xjn.lt
    have ltjd := xjd.lt
    have ltjf := xjf.lt
    go_wp2_with fail
    clear ltjn ltjd ltjf pjn pjd pjf
    have hb := ((Below.refl w14.heap.size w14).alloc (Nat.le_refl _) (.cells #[.bool false, .slice none 0 0, .bool false, .slice none 0 0] 26))
    have xx : Bk _ w14.heap.size #[.bool false, .slice none 0 0, .bool false, .slice none 0 0] 26 := (Bk.new w14 #[.bool false, .slice none 0 0, .bool false, .slice none 0 0] 26)
    replace xjn := xjn.on hb; replace xjd := xjd.on hb; replace xjf := xjf.on hb; replace jn := jn.on hb; replace jd := jd.on hb; replace jf := jf.on hb; replace hB := hB.trans (hb.mono hB.size); clear hb
    obtain ⟨wx, hwx⟩ : ∃ W, W = (w14.alloc (.cells #[.bool false, .slice none 0 0, .bool false, .slice none 0 0] 26)) := ⟨_, rfl⟩
    rw [← hwx] at hB xjn xjd xjf xx jn jd jf ⊢
    clear hwx
    refine (HR.out _).mono ?_
    rintro e w15 ⟨rfl, hb⟩
    replace xjn := xjn.on hb; replace xjd := xjd.on hb; replace xjf := xjf.on hb; replace xx := xx.on hb; replace jn := jn.on hb; replace jd := jd.on hb; replace jf := jf.on hb
    have hz15 := hb.size
    try simp at hz15
    replace hB := hB.trans (hb.mono hB.size); clear hb
    go_wp2
    go_ret
    exact ⟨rfl, hB⟩
  obtain ⟨r, er⟩ : ∃ r, r = Rat.divInt n d := ⟨_, rfl⟩
  have fr : Fz 256 256 r := by rw [er]; exact (Fz.made sn sd hd0).mono (by decide) (by decide)
  have fr4 : Fz 40 40 r := by rw [er]; exact Fz.made sn sd hd0
  have fn : Fz 256 256 (n : Rat) := (Fz.int sn).mono (by decide) (by decide)
  have fd : Fz 256 256 (d : Rat) := (Fz.int sd).mono (by decide) (by decide)
  have dq : (d : Rat) ≠ 0 := fun e => hd0 (Rat.intCast_eq_zero_iff.1 e)
  have hq : (n : Rat) / (d : Rat) = r := by rw [er]; exact (Rat.divInt_eq_div n d).symm
  have HX := Lib.hid (fun va vb W (h : Num W va n) (k : Num W vb d) => frMake_lit va vb n d r er.symm (sn.mono (by decide)) (sd.mono (by decide)) hd0 fr W h k)
  have H1 := Lib.hid (fun W => refFromInt_num 1 (by decide) (by decide) W)
  have HMn := Lib.hid (fun va vb W (h : Num W va n) (k : Num W vb 1) => frMake_lit va vb n 1 (n : Rat) (divInt_one n) (sn.mono (by decide)) ((Sz.small (by decide)).mono (by decide)) (by decide) fn W h k)
  have HMd := Lib.hid (fun va vb W (h : Num W va d) (k : Num W vb 1) => frMake_lit va vb d 1 (d : Rat) (divInt_one d) (sd.mono (by decide)) ((Sz.small (by decide)).mono (by decide)) (by decide) fd W h k)
  have HO := Lib.hid (fun va vb W (h : Fra W va (n : Rat)) (k : Fra W vb (d : Rat)) => law2_over_any va vb _ _ r hq dq fn fd fr W h k)
  have HE := Lib.hid (fun va vb W (h : Fra W va r) (k : Fra W vb r) => law2_equal_any va vb r fr W h k)
  have HPK := Lib.hid (And.intro er (And.intro fr fr4))
  clear er fr fr4 fn fd dq hq
  have pjn := xjn.all2
  have pjd := xjd.all2
  have pjf := xjf.all2
  have ltjn := xjn.lt
  have ltjd := xjd.lt
  have ltjf := xjf.lt
  go_wp2_with fail
  clear ltjn ltjd ltjf pjn pjd pjf
  refine (HX.out _ _ _ jn jd).mono ?_
  rintro e w14 ⟨⟨v, rfl, gx⟩, hb⟩
  obtain ⟨bx, ax, kx, cx, dx, ex, lx, mx, rfl⟩ := gx.opened
  replace xjn := xjn.on hb; replace xjd := xjd.on hb; replace xjf := xjf.on hb; replace jn := jn.on hb; replace jd := jd.on hb; replace jf := jf.on hb
  have hz14 := hb.size
  try simp at hz14
  replace hB := hB.trans (hb.mono hB.size); clear hb
  have hk := (num_len jd).1
  have hkd : ((kjd : Int) == 0) = false := by
    rw [beq_eq_false_iff_ne]; intro e; apply hd0
    have : dig d.natAbs = [] := List.eq_nil_of_length_eq_zero (by omega)
    have := (dig_nil_iff _).1 this; omega
  clear hk
  have pjn := xjn.all2
  have pjd := xjd.all2
  have pjf := xjf.all2
  have ltjn := xjn.lt
  have ltjd := xjd.lt
  have ltjf := xjf.lt
  go_wp2_with fail
  clear ltjn ltjd ltjf pjn pjd pjf
  have hb := ((Below.refl w14.heap.size w14).alloc (Nat.le_refl _) (.cells #[.bool bx, .slice ax kx cx, .bool dx, .slice ex lx mx] 26))
  have xx : Bk _ w14.heap.size #[.bool bx, .slice ax kx cx, .bool dx, .slice ex lx mx] 26 := (Bk.new w14 #[.bool bx, .slice ax kx cx, .bool dx, .slice ex lx mx] 26)
  replace xjn := xjn.on hb; replace xjd := xjd.on hb; replace xjf := xjf.on hb; replace jn := jn.on hb; replace jd := jd.on hb; replace jf := jf.on hb; replace gx := gx.on hb; replace hB := hB.trans (hb.mono hB.size); clear hb
  obtain ⟨wX0, hwX0⟩ : ∃ W, W = (w14.alloc (.cells #[.bool bx, .slice ax kx cx, .bool dx, .slice ex lx mx] 26)) := ⟨_, rfl⟩
  rw [← hwX0] at hB xjn xjd xjf xx jn jd jf gx ⊢
  clear hwX0 hkd
  go_cut [13, 14] (fun s6 s7 wx => AtF wX0 wx s6 s7 (n : Rat))
  case first =>
    have hM : Below wX0.heap.size wX0 wX0.drew := (Below.refl wX0.heap.size wX0).drew
    obtain ⟨gjn0, gjn1⟩ := xjn.cells2
    replace jn := jn.below hM (Nat.le_refl _); replace jd := jd.below hM (Nat.le_refl _); replace jf := jf.below hM (Nat.le_refl _); replace gx := gx.below hM (Nat.le_refl _); replace xjn := xjn.on hM; replace xjd := xjd.on hM; replace xjf := xjf.on hM; replace xx := xx.on hM
    refine wp_region_noPanic ?_
    refine wp_region_held_drew (S := (fun w' => w'.cell? ⟨w.heap.size + 1 + 1, 0, none⟩ = some (.bool bjn) ∧ w'.cell? ⟨w.heap.size + 1 + 1, 1, none⟩ = some (.slice ajn kjn cjn))) (by kernel_rfl) ⟨gjn0, gjn1⟩ (fun hR0 => ?_)
    change wpAnyH _ _ _ _ _ 9 #[false, false, false, false, false, false, false, false, false] _ _
    clear gjn0 gjn1
    generalize wX0.drew = wd at *
    refine tk (i := 0) (v := ?_) rfl (by kernel_rfl) (fun _ _ _ h => h) (by rfl) ?_ (by assumption) ?_
    rotate_left 1
    · (intro w hSw; (try dsimp only at hSw); go_simp <;> (with_reducible rfl))
    (try simp only [Act.put, List.setIfInBounds_toArray, List.set])
    have qjn := xjn.lt
    refine rd2 (i := 1) (j := 6) (by kernel_rfl) rfl rfl (fun K hK => ?_) (fun K hK => ?_)
    · skip
      go_simp
      go_at_call 54; refine (H1.out _).mono ?_; rintro e wn ⟨⟨v, rfl, gq⟩, hb⟩; replace xjn := xjn.on hb; replace xjd := xjd.on hb; replace xjf := xjf.on hb; replace xx := xx.on hb; replace jn := jn.on hb; replace jd := jd.on hb; replace jf := jf.on hb; replace gx := gx.on hb; replace hM := hM.trans (hb.mono hM.size)
      (try go_wp2_with fail)
      refine hK.out _ _ (⟨(hb.cell (p := ⟨w.heap.size + 1 + 1, 0, none⟩) qjn).trans hR0.1, (hb.cell (p := ⟨w.heap.size + 1 + 1, 1, none⟩) qjn).trans hR0.2⟩) (fun hR1 => ?_)
      clear hK K hR0
      (try simp only [List.setIfInBounds_toArray, List.set])
      clear hb qjn
      have qjn := xjn.lt
      refine rd2 (i := 2) (j := 6) (by kernel_rfl) rfl rfl (fun K hK => ?_) (fun K hK => ?_)
      · skip
        go_simp
        go_at_call 17; refine (HMn.out _ _ _ jn gq).mono ?_; rintro e wq ⟨⟨v, rfl, gr⟩, hb⟩; obtain ⟨br, ar, kr, cr, dr, er, lr, mr, rfl⟩ := gr.opened; replace xjn := xjn.on hb; replace xjd := xjd.on hb; replace xjf := xjf.on hb; replace xx := xx.on hb; replace jn := jn.on hb; replace jd := jd.on hb; replace jf := jf.on hb; replace gx := gx.on hb; replace gq := gq.on hb; replace hM := hM.trans (hb.mono hM.size)
        (try go_wp2_with fail)
        refine hK.out _ _ (⟨(hb.cell (p := ⟨w.heap.size + 1 + 1, 0, none⟩) qjn).trans hR1.1, (hb.cell (p := ⟨w.heap.size + 1 + 1, 1, none⟩) qjn).trans hR1.2⟩) (fun hR2 => ?_)
        clear hK K hR1
        (try simp only [List.setIfInBounds_toArray, List.set])
        clear hb qjn
        have qjn := xjn.lt
        refine tk (i := 3) (v := ?_) rfl (by kernel_rfl) (fun _ _ _ h => h) (by rfl) ?_ (by assumption) ?_
        rotate_left 1
        · (intro w hSw; (try dsimp only at hSw); go_simp <;> (with_reducible rfl))
        (try simp only [Act.put, List.setIfInBounds_toArray, List.set])
        refine tk (i := 4) (v := ?_) rfl (by kernel_rfl) (fun _ _ _ h => h) (by rfl) ?_ (by assumption) ?_
        rotate_left 1
        · (intro w hSw; (try dsimp only at hSw); go_simp <;> (with_reducible rfl))
        (try simp only [Act.put, List.setIfInBounds_toArray, List.set])
        refine tk (i := 5) (v := ?_) rfl (by kernel_rfl) (fun _ _ _ h => h) (by rfl) ?_ (by assumption) ?_
        rotate_left 1
        · (intro w hSw; (try dsimp only at hSw); go_simp <;> (with_reducible rfl))
        (try simp only [Act.put, List.setIfInBounds_toArray, List.set])
        have njn : wq.heap.size ≠ w.heap.size + 1 + 1 := (by have := xjn.lt; omega)
        have hb := (Below.refl wq.heap.size wq).alloc (Nat.le_refl _) (.cells #[.bool false, .slice none 0 0, .bool false, .slice none 0 0] 26)
        refine rd1 (i := 6) (by kernel_rfl) rfl (fun K hK => ?_)
        go_simp
        refine hK.out _ _ (⟨(hb.cell (p := ⟨w.heap.size + 1 + 1, 0, none⟩) qjn).trans hR2.1, (hb.cell (p := ⟨w.heap.size + 1 + 1, 1, none⟩) qjn).trans hR2.2⟩) (fun hR3 => ?_)
        clear hK K hR2
        (try simp only [List.setIfInBounds_toArray, List.set])
        have xz := Bk.new wq #[.bool false, .slice none 0 0, .bool false, .slice none 0 0] 26
        have lz := hM.size
        replace xjn := xjn.on hb; replace xjd := xjd.on hb; replace xjf := xjf.on hb; replace xx := xx.on hb; replace jn := jn.on hb; replace jd := jd.on hb; replace jf := jf.on hb; replace gx := gx.on hb; replace gq := gq.on hb; replace gr := gr.on hb; replace hM := hM.trans (hb.mono hM.size); clear hb qjn
        generalize hA : wq.heap.size = AZ at *
        generalize wq.alloc (.cells #[.bool false, .slice none 0 0, .bool false, .slice none 0 0] 26) = wz at *
        clear hA
        have qjn := xjn.lt
        have pz := xz.all4
        refine rd1 (i := 7) (by kernel_rfl) rfl (fun K hK => ?_)
        go_simp
        refine hK.out _ _ (⟨cell_store4 hR3.1 njn, cell_store4 hR3.2 njn⟩) (fun hR4 => ?_)
        clear hK K hR3
        (try simp only [List.setIfInBounds_toArray, List.set])
        refine tk (i := 8) (v := ?_) rfl (by kernel_rfl) (fun _ _ _ h => h) (by rfl) ?_ (by assumption) ?_
        rotate_left 1
        · (intro w hSw; (try dsimp only at hSw); go_simp <;> (with_reducible rfl))
        (try simp only [Act.put, List.setIfInBounds_toArray, List.set])
        refine wpAnyH_done (by kernel_rfl) ?_ _
        refine NoPanic.normal ?_
        clear hR4
        go_wp2_with fail
        go_meet
        exact atF_old hM lz xz gr
      · skip
        have njn : wn.heap.size ≠ w.heap.size + 1 + 1 := (by have := xjn.lt; omega)
        have hb := (Below.refl wn.heap.size wn).alloc (Nat.le_refl _) (.cells #[.bool false, .slice none 0 0, .bool false, .slice none 0 0] 26)
        go_simp
        refine hK.out _ _ (⟨(hb.cell (p := ⟨w.heap.size + 1 + 1, 0, none⟩) qjn).trans hR1.1, (hb.cell (p := ⟨w.heap.size + 1 + 1, 1, none⟩) qjn).trans hR1.2⟩) (fun hR2 => ?_)
        clear hK K hR1
        (try simp only [List.setIfInBounds_toArray, List.set])
        have xz := Bk.new wn #[.bool false, .slice none 0 0, .bool false, .slice none 0 0] 26
        have lz := hM.size
        replace xjn := xjn.on hb; replace xjd := xjd.on hb; replace xjf := xjf.on hb; replace xx := xx.on hb; replace jn := jn.on hb; replace jd := jd.on hb; replace jf := jf.on hb; replace gx := gx.on hb; replace gq := gq.on hb; replace hM := hM.trans (hb.mono hM.size); clear hb qjn
        generalize hA : wn.heap.size = AZ at *
        generalize wn.alloc (.cells #[.bool false, .slice none 0 0, .bool false, .slice none 0 0] 26) = wz at *
        clear hA
        have qjn := xjn.lt
        refine rd1 (i := 2) (by kernel_rfl) rfl (fun K hK => ?_)
        go_simp
        go_at_call 17; refine (HMn.out _ _ _ jn gq).mono ?_; rintro e wq ⟨⟨v, rfl, gr⟩, hb⟩; obtain ⟨br, ar, kr, cr, dr, er, lr, mr, rfl⟩ := gr.opened; replace xjn := xjn.on hb; replace xjd := xjd.on hb; replace xjf := xjf.on hb; replace xx := xx.on hb; replace xz := xz.on hb; replace jn := jn.on hb; replace jd := jd.on hb; replace jf := jf.on hb; replace gx := gx.on hb; replace gq := gq.on hb; replace hM := hM.trans (hb.mono hM.size)
        (try go_wp2_with fail)
        refine hK.out _ _ (⟨(hb.cell (p := ⟨w.heap.size + 1 + 1, 0, none⟩) qjn).trans hR2.1, (hb.cell (p := ⟨w.heap.size + 1 + 1, 1, none⟩) qjn).trans hR2.2⟩) (fun hR3 => ?_)
        clear hK K hR2
        (try simp only [List.setIfInBounds_toArray, List.set])
        clear hb qjn
        have qjn := xjn.lt
        refine tk (i := 3) (v := ?_) rfl (by kernel_rfl) (fun _ _ _ h => h) (by rfl) ?_ (by assumption) ?_
        rotate_left 1
        · (intro w hSw; (try dsimp only at hSw); go_simp <;> (with_reducible rfl))
        (try simp only [Act.put, List.setIfInBounds_toArray, List.set])
        refine tk (i := 4) (v := ?_) rfl (by kernel_rfl) (fun _ _ _ h => h) (by rfl) ?_ (by assumption) ?_
        rotate_left 1
        · (intro w hSw; (try dsimp only at hSw); go_simp <;> (with_reducible rfl))
        (try simp only [Act.put, List.setIfInBounds_toArray, List.set])
        refine tk (i := 5) (v := ?_) rfl (by kernel_rfl) (fun _ _ _ h => h) (by rfl) ?_ (by assumption) ?_
        rotate_left 1
        · (intro w hSw; (try dsimp only at hSw); go_simp <;> (with_reducible rfl))
        (try simp only [Act.put, List.setIfInBounds_toArray, List.set])
        have pz := xz.all4
        refine rd1 (i := 7) (by kernel_rfl) rfl (fun K hK => ?_)
        go_simp
        refine hK.out _ _ (⟨cell_store4 hR3.1 njn, cell_store4 hR3.2 njn⟩) (fun hR4 => ?_)
        clear hK K hR3
        (try simp only [List.setIfInBounds_toArray, List.set])
        refine tk (i := 8) (v := ?_) rfl (by kernel_rfl) (fun _ _ _ h => h) (by rfl) ?_ (by assumption) ?_
        rotate_left 1
        · (intro w hSw; (try dsimp only at hSw); go_simp <;> (with_reducible rfl))
        (try simp only [Act.put, List.setIfInBounds_toArray, List.set])
        refine wpAnyH_done (by kernel_rfl) ?_ _
        refine NoPanic.normal ?_
        clear hR4
        go_wp2_with fail
        go_meet
        exact atF_old hM lz xz gr
    · skip
      have njn : wd.heap.size ≠ w.heap.size + 1 + 1 := (by have := xjn.lt; omega)
      have hb := (Below.refl wd.heap.size wd).alloc (Nat.le_refl _) (.cells #[.bool false, .slice none 0 0, .bool false, .slice none 0 0] 26)
      go_simp
      refine hK.out _ _ (⟨(hb.cell (p := ⟨w.heap.size + 1 + 1, 0, none⟩) qjn).trans hR0.1, (hb.cell (p := ⟨w.heap.size + 1 + 1, 1, none⟩) qjn).trans hR0.2⟩) (fun hR1 => ?_)
      clear hK K hR0
      (try simp only [List.setIfInBounds_toArray, List.set])
      have xz := Bk.new wd #[.bool false, .slice none 0 0, .bool false, .slice none 0 0] 26
      have lz := hM.size
      replace xjn := xjn.on hb; replace xjd := xjd.on hb; replace xjf := xjf.on hb; replace xx := xx.on hb; replace jn := jn.on hb; replace jd := jd.on hb; replace jf := jf.on hb; replace gx := gx.on hb; replace hM := hM.trans (hb.mono hM.size); clear hb qjn
      generalize hA : wd.heap.size = AZ at *
      generalize wd.alloc (.cells #[.bool false, .slice none 0 0, .bool false, .slice none 0 0] 26) = wz at *
      clear hA
      have qjn := xjn.lt
      refine rd1 (i := 1) (by kernel_rfl) rfl (fun K hK => ?_)
      go_simp
      go_at_call 54; refine (H1.out _).mono ?_; rintro e wn ⟨⟨v, rfl, gq⟩, hb⟩; replace xjn := xjn.on hb; replace xjd := xjd.on hb; replace xjf := xjf.on hb; replace xx := xx.on hb; replace xz := xz.on hb; replace jn := jn.on hb; replace jd := jd.on hb; replace jf := jf.on hb; replace gx := gx.on hb; replace hM := hM.trans (hb.mono hM.size)
      (try go_wp2_with fail)
      refine hK.out _ _ (⟨(hb.cell (p := ⟨w.heap.size + 1 + 1, 0, none⟩) qjn).trans hR1.1, (hb.cell (p := ⟨w.heap.size + 1 + 1, 1, none⟩) qjn).trans hR1.2⟩) (fun hR2 => ?_)
      clear hK K hR1
      (try simp only [List.setIfInBounds_toArray, List.set])
      clear hb qjn
      have qjn := xjn.lt
      refine rd1 (i := 2) (by kernel_rfl) rfl (fun K hK => ?_)
      go_simp
      go_at_call 17; refine (HMn.out _ _ _ jn gq).mono ?_; rintro e wq ⟨⟨v, rfl, gr⟩, hb⟩; obtain ⟨br, ar, kr, cr, dr, er, lr, mr, rfl⟩ := gr.opened; replace xjn := xjn.on hb; replace xjd := xjd.on hb; replace xjf := xjf.on hb; replace xx := xx.on hb; replace xz := xz.on hb; replace jn := jn.on hb; replace jd := jd.on hb; replace jf := jf.on hb; replace gx := gx.on hb; replace gq := gq.on hb; replace hM := hM.trans (hb.mono hM.size)
      (try go_wp2_with fail)
      refine hK.out _ _ (⟨(hb.cell (p := ⟨w.heap.size + 1 + 1, 0, none⟩) qjn).trans hR2.1, (hb.cell (p := ⟨w.heap.size + 1 + 1, 1, none⟩) qjn).trans hR2.2⟩) (fun hR3 => ?_)
      clear hK K hR2
      (try simp only [List.setIfInBounds_toArray, List.set])
      clear hb qjn
      have qjn := xjn.lt
      refine tk (i := 3) (v := ?_) rfl (by kernel_rfl) (fun _ _ _ h => h) (by rfl) ?_ (by assumption) ?_
      rotate_left 1
      · (intro w hSw; (try dsimp only at hSw); go_simp <;> (with_reducible rfl))
      (try simp only [Act.put, List.setIfInBounds_toArray, List.set])
      refine tk (i := 4) (v := ?_) rfl (by kernel_rfl) (fun _ _ _ h => h) (by rfl) ?_ (by assumption) ?_
      rotate_left 1
      · (intro w hSw; (try dsimp only at hSw); go_simp <;> (with_reducible rfl))
      (try simp only [Act.put, List.setIfInBounds_toArray, List.set])
      refine tk (i := 5) (v := ?_) rfl (by kernel_rfl) (fun _ _ _ h => h) (by rfl) ?_ (by assumption) ?_
      rotate_left 1
      · (intro w hSw; (try dsimp only at hSw); go_simp <;> (with_reducible rfl))
      (try simp only [Act.put, List.setIfInBounds_toArray, List.set])
      have pz := xz.all4
      refine rd1 (i := 7) (by kernel_rfl) rfl (fun K hK => ?_)
      go_simp
      refine hK.out _ _ (⟨cell_store4 hR3.1 njn, cell_store4 hR3.2 njn⟩) (fun hR4 => ?_)
      clear hK K hR3
      (try simp only [List.setIfInBounds_toArray, List.set])
      refine tk (i := 8) (v := ?_) rfl (by kernel_rfl) (fun _ _ _ h => h) (by rfl) ?_ (by assumption) ?_
      rotate_left 1
      · (intro w hSw; (try dsimp only at hSw); go_simp <;> (with_reducible rfl))
      (try simp only [Act.put, List.setIfInBounds_toArray, List.set])
      refine wpAnyH_done (by kernel_rfl) ?_ _
      refine NoPanic.normal ?_
      clear hR4
      go_wp2_with fail
      go_meet
      exact atF_old hM lz xz gr
  case rest =>
    obtain ⟨AAp, bp, ap, kp, cp, dp, ep, lp, mp, rfl, rfl, xp, gp, lAp, hb⟩ := hcut
    obtain ⟨w15, hwc⟩ : ∃ W : World, W = wc := ⟨_, rfl⟩
    subst hwc
    replace lAp := Nat.le_trans hB.size lAp; replace xjn := xjn.on hb; replace xjd := xjd.on hb; replace xjf := xjf.on hb; replace xx := xx.on hb; replace jn := jn.on hb; replace jd := jd.on hb; replace jf := jf.on hb; replace gx := gx.on hb; replace hB := hB.trans (hb.mono hB.size); clear hb
    go_wp2_with fail
    go_cut [15, 16] (fun s6 s7 wx => AtF w15 wx s6 s7 (d : Rat))
    case first =>
      have hM : Below w15.heap.size w15 w15.drew := (Below.refl w15.heap.size w15).drew
      obtain ⟨gjd0, gjd1⟩ := xjd.cells2
      replace jn := jn.below hM (Nat.le_refl _); replace jd := jd.below hM (Nat.le_refl _); replace jf := jf.below hM (Nat.le_refl _); replace gx := gx.below hM (Nat.le_refl _); replace gp := gp.below hM (Nat.le_refl _); replace xjn := xjn.on hM; replace xjd := xjd.on hM; replace xjf := xjf.on hM; replace xx := xx.on hM; replace xp := xp.on hM
      refine wp_region_noPanic ?_
      refine wp_region_held_drew (S := (fun w' => w'.cell? ⟨w.heap.size + 1 + 1 + 1, 0, none⟩ = some (.bool bjd) ∧ w'.cell? ⟨w.heap.size + 1 + 1 + 1, 1, none⟩ = some (.slice ajd kjd cjd))) (by kernel_rfl) ⟨gjd0, gjd1⟩ (fun hR0 => ?_)
      change wpAnyH _ _ _ _ _ 9 #[false, false, false, false, false, false, false, false, false] _ _
      clear gjd0 gjd1
      generalize w15.drew = wd at *
      refine tk (i := 0) (v := ?_) rfl (by kernel_rfl) (fun _ _ _ h => h) (by rfl) ?_ (by assumption) ?_
      rotate_left 1
      · (intro w hSw; (try dsimp only at hSw); go_simp <;> (with_reducible rfl))
      (try simp only [Act.put, List.setIfInBounds_toArray, List.set])
      have qjd := xjd.lt
      refine rd2 (i := 1) (j := 6) (by kernel_rfl) rfl rfl (fun K hK => ?_) (fun K hK => ?_)
      · skip
        go_simp
        go_at_call 54; refine (H1.out _).mono ?_; rintro e wn ⟨⟨v, rfl, gq⟩, hb⟩; replace xjn := xjn.on hb; replace xjd := xjd.on hb; replace xjf := xjf.on hb; replace xx := xx.on hb; replace xp := xp.on hb; replace jn := jn.on hb; replace jd := jd.on hb; replace jf := jf.on hb; replace gx := gx.on hb; replace gp := gp.on hb; replace hM := hM.trans (hb.mono hM.size)
        (try go_wp2_with fail)
        refine hK.out _ _ (⟨(hb.cell (p := ⟨w.heap.size + 1 + 1 + 1, 0, none⟩) qjd).trans hR0.1, (hb.cell (p := ⟨w.heap.size + 1 + 1 + 1, 1, none⟩) qjd).trans hR0.2⟩) (fun hR1 => ?_)
        clear hK K hR0
        (try simp only [List.setIfInBounds_toArray, List.set])
        clear hb qjd
        have qjd := xjd.lt
        refine rd2 (i := 2) (j := 6) (by kernel_rfl) rfl rfl (fun K hK => ?_) (fun K hK => ?_)
        · skip
          go_simp
          go_at_call 17; refine (HMd.out _ _ _ jd gq).mono ?_; rintro e wq ⟨⟨v, rfl, gr⟩, hb⟩; obtain ⟨br, ar, kr, cr, dr, er, lr, mr, rfl⟩ := gr.opened; replace xjn := xjn.on hb; replace xjd := xjd.on hb; replace xjf := xjf.on hb; replace xx := xx.on hb; replace xp := xp.on hb; replace jn := jn.on hb; replace jd := jd.on hb; replace jf := jf.on hb; replace gx := gx.on hb; replace gp := gp.on hb; replace gq := gq.on hb; replace hM := hM.trans (hb.mono hM.size)
          (try go_wp2_with fail)
          refine hK.out _ _ (⟨(hb.cell (p := ⟨w.heap.size + 1 + 1 + 1, 0, none⟩) qjd).trans hR1.1, (hb.cell (p := ⟨w.heap.size + 1 + 1 + 1, 1, none⟩) qjd).trans hR1.2⟩) (fun hR2 => ?_)
          clear hK K hR1
          (try simp only [List.setIfInBounds_toArray, List.set])
          clear hb qjd
          have qjd := xjd.lt
          refine tk (i := 3) (v := ?_) rfl (by kernel_rfl) (fun _ _ _ h => h) (by rfl) ?_ (by assumption) ?_
          rotate_left 1
          · (intro w hSw; (try dsimp only at hSw); go_simp <;> (with_reducible rfl))
          (try simp only [Act.put, List.setIfInBounds_toArray, List.set])
          refine tk (i := 4) (v := ?_) rfl (by kernel_rfl) (fun _ _ _ h => h) (by rfl) ?_ (by assumption) ?_
          rotate_left 1
          · (intro w hSw; (try dsimp only at hSw); go_simp <;> (with_reducible rfl))
          (try simp only [Act.put, List.setIfInBounds_toArray, List.set])
          refine tk (i := 5) (v := ?_) rfl (by kernel_rfl) (fun _ _ _ h => h) (by rfl) ?_ (by assumption) ?_
          rotate_left 1
          · (intro w hSw; (try dsimp only at hSw); go_simp <;> (with_reducible rfl))
          (try simp only [Act.put, List.setIfInBounds_toArray, List.set])
          have njd : wq.heap.size ≠ w.heap.size + 1 + 1 + 1 := (by have := xjd.lt; omega)
          have hb := (Below.refl wq.heap.size wq).alloc (Nat.le_refl _) (.cells #[.bool false, .slice none 0 0, .bool false, .slice none 0 0] 26)
          refine rd1 (i := 6) (by kernel_rfl) rfl (fun K hK => ?_)
          go_simp
          refine hK.out _ _ (⟨(hb.cell (p := ⟨w.heap.size + 1 + 1 + 1, 0, none⟩) qjd).trans hR2.1, (hb.cell (p := ⟨w.heap.size + 1 + 1 + 1, 1, none⟩) qjd).trans hR2.2⟩) (fun hR3 => ?_)
          clear hK K hR2
          (try simp only [List.setIfInBounds_toArray, List.set])
          have xz := Bk.new wq #[.bool false, .slice none 0 0, .bool false, .slice none 0 0] 26
          have lz := hM.size
          replace xjn := xjn.on hb; replace xjd := xjd.on hb; replace xjf := xjf.on hb; replace xx := xx.on hb; replace xp := xp.on hb; replace jn := jn.on hb; replace jd := jd.on hb; replace jf := jf.on hb; replace gx := gx.on hb; replace gp := gp.on hb; replace gq := gq.on hb; replace gr := gr.on hb; replace hM := hM.trans (hb.mono hM.size); clear hb qjd
          generalize hA : wq.heap.size = AZ at *
          generalize wq.alloc (.cells #[.bool false, .slice none 0 0, .bool false, .slice none 0 0] 26) = wz at *
          clear hA
          have qjd := xjd.lt
          have pz := xz.all4
          refine rd1 (i := 7) (by kernel_rfl) rfl (fun K hK => ?_)
          go_simp
          refine hK.out _ _ (⟨cell_store4 hR3.1 njd, cell_store4 hR3.2 njd⟩) (fun hR4 => ?_)
          clear hK K hR3
          (try simp only [List.setIfInBounds_toArray, List.set])
          refine tk (i := 8) (v := ?_) rfl (by kernel_rfl) (fun _ _ _ h => h) (by rfl) ?_ (by assumption) ?_
          rotate_left 1
          · (intro w hSw; (try dsimp only at hSw); go_simp <;> (with_reducible rfl))
          (try simp only [Act.put, List.setIfInBounds_toArray, List.set])
          refine wpAnyH_done (by kernel_rfl) ?_ _
          refine NoPanic.normal ?_
          clear hR4
          go_wp2_with fail
          go_meet
          exact atF_old hM lz xz gr
        · skip
          have njd : wn.heap.size ≠ w.heap.size + 1 + 1 + 1 := (by have := xjd.lt; omega)
          have hb := (Below.refl wn.heap.size wn).alloc (Nat.le_refl _) (.cells #[.bool false, .slice none 0 0, .bool false, .slice none 0 0] 26)
          go_simp
          refine hK.out _ _ (⟨(hb.cell (p := ⟨w.heap.size + 1 + 1 + 1, 0, none⟩) qjd).trans hR1.1, (hb.cell (p := ⟨w.heap.size + 1 + 1 + 1, 1, none⟩) qjd).trans hR1.2⟩) (fun hR2 => ?_)
          clear hK K hR1
          (try simp only [List.setIfInBounds_toArray, List.set])
          have xz := Bk.new wn #[.bool false, .slice none 0 0, .bool false, .slice none 0 0] 26
          have lz := hM.size
          replace xjn := xjn.on hb; replace xjd := xjd.on hb; replace xjf := xjf.on hb; replace xx := xx.on hb; replace xp := xp.on hb; replace jn := jn.on hb; replace jd := jd.on hb; replace jf := jf.on hb; replace gx := gx.on hb; replace gp := gp.on hb; replace gq := gq.on hb; replace hM := hM.trans (hb.mono hM.size); clear hb qjd
          generalize hA : wn.heap.size = AZ at *
          generalize wn.alloc (.cells #[.bool false, .slice none 0 0, .bool false, .slice none 0 0] 26) = wz at *
          clear hA
          have qjd := xjd.lt
          refine rd1 (i := 2) (by kernel_rfl) rfl (fun K hK => ?_)
          go_simp
          go_at_call 17; refine (HMd.out _ _ _ jd gq).mono ?_; rintro e wq ⟨⟨v, rfl, gr⟩, hb⟩; obtain ⟨br, ar, kr, cr, dr, er, lr, mr, rfl⟩ := gr.opened; replace xjn := xjn.on hb; replace xjd := xjd.on hb; replace xjf := xjf.on hb; replace xx := xx.on hb; replace xp := xp.on hb; replace xz := xz.on hb; replace jn := jn.on hb; replace jd := jd.on hb; replace jf := jf.on hb; replace gx := gx.on hb; replace gp := gp.on hb; replace gq := gq.on hb; replace hM := hM.trans (hb.mono hM.size)
          (try go_wp2_with fail)
          refine hK.out _ _ (⟨(hb.cell (p := ⟨w.heap.size + 1 + 1 + 1, 0, none⟩) qjd).trans hR2.1, (hb.cell (p := ⟨w.heap.size + 1 + 1 + 1, 1, none⟩) qjd).trans hR2.2⟩) (fun hR3 => ?_)
          clear hK K hR2
          (try simp only [List.setIfInBounds_toArray, List.set])
          clear hb qjd
          have qjd := xjd.lt
          refine tk (i := 3) (v := ?_) rfl (by kernel_rfl) (fun _ _ _ h => h) (by rfl) ?_ (by assumption) ?_
          rotate_left 1
          · (intro w hSw; (try dsimp only at hSw); go_simp <;> (with_reducible rfl))
          (try simp only [Act.put, List.setIfInBounds_toArray, List.set])
          refine tk (i := 4) (v := ?_) rfl (by kernel_rfl) (fun _ _ _ h => h) (by rfl) ?_ (by assumption) ?_
          rotate_left 1
          · (intro w hSw; (try dsimp only at hSw); go_simp <;> (with_reducible rfl))
          (try simp only [Act.put, List.setIfInBounds_toArray, List.set])
          refine tk (i := 5) (v := ?_) rfl (by kernel_rfl) (fun _ _ _ h => h) (by rfl) ?_ (by assumption) ?_
          rotate_left 1
          · (intro w hSw; (try dsimp only at hSw); go_simp <;> (with_reducible rfl))
          (try simp only [Act.put, List.setIfInBounds_toArray, List.set])
          have pz := xz.all4
          refine rd1 (i := 7) (by kernel_rfl) rfl (fun K hK => ?_)
          go_simp
          refine hK.out _ _ (⟨cell_store4 hR3.1 njd, cell_store4 hR3.2 njd⟩) (fun hR4 => ?_)
          clear hK K hR3
          (try simp only [List.setIfInBounds_toArray, List.set])
          refine tk (i := 8) (v := ?_) rfl (by kernel_rfl) (fun _ _ _ h => h) (by rfl) ?_ (by assumption) ?_
          rotate_left 1
          · (intro w hSw; (try dsimp only at hSw); go_simp <;> (with_reducible rfl))
          (try simp only [Act.put, List.setIfInBounds_toArray, List.set])
          refine wpAnyH_done (by kernel_rfl) ?_ _
          refine NoPanic.normal ?_
          clear hR4
          go_wp2_with fail
          go_meet
          exact atF_old hM lz xz gr
      · skip
        have njd : wd.heap.size ≠ w.heap.size + 1 + 1 + 1 := (by have := xjd.lt; omega)
        have hb := (Below.refl wd.heap.size wd).alloc (Nat.le_refl _) (.cells #[.bool false, .slice none 0 0, .bool false, .slice none 0 0] 26)
        go_simp
        refine hK.out _ _ (⟨(hb.cell (p := ⟨w.heap.size + 1 + 1 + 1, 0, none⟩) qjd).trans hR0.1, (hb.cell (p := ⟨w.heap.size + 1 + 1 + 1, 1, none⟩) qjd).trans hR0.2⟩) (fun hR1 => ?_)
        clear hK K hR0
        (try simp only [List.setIfInBounds_toArray, List.set])
        have xz := Bk.new wd #[.bool false, .slice none 0 0, .bool false, .slice none 0 0] 26
        have lz := hM.size
        replace xjn := xjn.on hb; replace xjd := xjd.on hb; replace xjf := xjf.on hb; replace xx := xx.on hb; replace xp := xp.on hb; replace jn := jn.on hb; replace jd := jd.on hb; replace jf := jf.on hb; replace gx := gx.on hb; replace gp := gp.on hb; replace hM := hM.trans (hb.mono hM.size); clear hb qjd
        generalize hA : wd.heap.size = AZ at *
        generalize wd.alloc (.cells #[.bool false, .slice none 0 0, .bool false, .slice none 0 0] 26) = wz at *
        clear hA
        have qjd := xjd.lt
        refine rd1 (i := 1) (by kernel_rfl) rfl (fun K hK => ?_)
        go_simp
        go_at_call 54; refine (H1.out _).mono ?_; rintro e wn ⟨⟨v, rfl, gq⟩, hb⟩; replace xjn := xjn.on hb; replace xjd := xjd.on hb; replace xjf := xjf.on hb; replace xx := xx.on hb; replace xp := xp.on hb; replace xz := xz.on hb; replace jn := jn.on hb; replace jd := jd.on hb; replace jf := jf.on hb; replace gx := gx.on hb; replace gp := gp.on hb; replace hM := hM.trans (hb.mono hM.size)
        (try go_wp2_with fail)
        refine hK.out _ _ (⟨(hb.cell (p := ⟨w.heap.size + 1 + 1 + 1, 0, none⟩) qjd).trans hR1.1, (hb.cell (p := ⟨w.heap.size + 1 + 1 + 1, 1, none⟩) qjd).trans hR1.2⟩) (fun hR2 => ?_)
        clear hK K hR1
        (try simp only [List.setIfInBounds_toArray, List.set])
        clear hb qjd
        have qjd := xjd.lt
        refine rd1 (i := 2) (by kernel_rfl) rfl (fun K hK => ?_)
        go_simp
        go_at_call 17; refine (HMd.out _ _ _ jd gq).mono ?_; rintro e wq ⟨⟨v, rfl, gr⟩, hb⟩; obtain ⟨br, ar, kr, cr, dr, er, lr, mr, rfl⟩ := gr.opened; replace xjn := xjn.on hb; replace xjd := xjd.on hb; replace xjf := xjf.on hb; replace xx := xx.on hb; replace xp := xp.on hb; replace xz := xz.on hb; replace jn := jn.on hb; replace jd := jd.on hb; replace jf := jf.on hb; replace gx := gx.on hb; replace gp := gp.on hb; replace gq := gq.on hb; replace hM := hM.trans (hb.mono hM.size)
        (try go_wp2_with fail)
        refine hK.out _ _ (⟨(hb.cell (p := ⟨w.heap.size + 1 + 1 + 1, 0, none⟩) qjd).trans hR2.1, (hb.cell (p := ⟨w.heap.size + 1 + 1 + 1, 1, none⟩) qjd).trans hR2.2⟩) (fun hR3 => ?_)
        clear hK K hR2
        (try simp only [List.setIfInBounds_toArray, List.set])
        clear hb qjd
        have qjd := xjd.lt
        refine tk (i := 3) (v := ?_) rfl (by kernel_rfl) (fun _ _ _ h => h) (by rfl) ?_ (by assumption) ?_
        rotate_left 1
        · (intro w hSw; (try dsimp only at hSw); go_simp <;> (with_reducible rfl))
        (try simp only [Act.put, List.setIfInBounds_toArray, List.set])
        refine tk (i := 4) (v := ?_) rfl (by kernel_rfl) (fun _ _ _ h => h) (by rfl) ?_ (by assumption) ?_
        rotate_left 1
        · (intro w hSw; (try dsimp only at hSw); go_simp <;> (with_reducible rfl))
        (try simp only [Act.put, List.setIfInBounds_toArray, List.set])
        refine tk (i := 5) (v := ?_) rfl (by kernel_rfl) (fun _ _ _ h => h) (by rfl) ?_ (by assumption) ?_
        rotate_left 1
        · (intro w hSw; (try dsimp only at hSw); go_simp <;> (with_reducible rfl))
        (try simp only [Act.put, List.setIfInBounds_toArray, List.set])
        have pz := xz.all4
        refine rd1 (i := 7) (by kernel_rfl) rfl (fun K hK => ?_)
        go_simp
        refine hK.out _ _ (⟨cell_store4 hR3.1 njd, cell_store4 hR3.2 njd⟩) (fun hR4 => ?_)
        clear hK K hR3
        (try simp only [List.setIfInBounds_toArray, List.set])
        refine tk (i := 8) (v := ?_) rfl (by kernel_rfl) (fun _ _ _ h => h) (by rfl) ?_ (by assumption) ?_
        rotate_left 1
        · (intro w hSw; (try dsimp only at hSw); go_simp <;> (with_reducible rfl))
        (try simp only [Act.put, List.setIfInBounds_toArray, List.set])
        refine wpAnyH_done (by kernel_rfl) ?_ _
        refine NoPanic.normal ?_
        clear hR4
        go_wp2_with fail
        go_meet
        exact atF_old hM lz xz gr
    case rest =>
      obtain ⟨AAq, bq, aq, kq, cq, dq, eq, lq, mq, rfl, rfl, xq, gq, lAq, hb⟩ := hcut
      obtain ⟨w16, hwc⟩ : ∃ W : World, W = wc := ⟨_, rfl⟩
      subst hwc
      replace lAq := Nat.le_trans hB.size lAq; replace xjn := xjn.on hb; replace xjd := xjd.on hb; replace xjf := xjf.on hb; replace xx := xx.on hb; replace xp := xp.on hb; replace jn := jn.on hb; replace jd := jd.on hb; replace jf := jf.on hb; replace gx := gx.on hb; replace gp := gp.on hb; replace hB := hB.trans (hb.mono hB.size); clear hb
      go_wp2_with fail
      have qx := xx.lt
      have qp := xp.lt
      have qq := xq.lt
      obtain ⟨gx0, gx1, gx2, gx3⟩ := xx.cells4
      obtain ⟨gp0, gp1, gp2, gp3⟩ := xp.cells4
      obtain ⟨gq0, gq1, gq2, gq3⟩ := xq.cells4
      refine wp_region_noPanic ?_
      refine wp_region_held_drew (S := (fun w' => (w'.cell? ⟨w14.heap.size, 0, none⟩ = some (.bool bx) ∧ w'.cell? ⟨w14.heap.size, 1, none⟩ = some (.slice ax kx cx) ∧ w'.cell? ⟨w14.heap.size, 2, none⟩ = some (.bool dx) ∧ w'.cell? ⟨w14.heap.size, 3, none⟩ = some (.slice ex lx mx)) ∧ (w'.cell? ⟨AAp, 0, none⟩ = some (.bool bp) ∧ w'.cell? ⟨AAp, 1, none⟩ = some (.slice ap kp cp) ∧ w'.cell? ⟨AAp, 2, none⟩ = some (.bool dp) ∧ w'.cell? ⟨AAp, 3, none⟩ = some (.slice ep lp mp)) ∧ w'.cell? ⟨AAq, 0, none⟩ = some (.bool bq) ∧ w'.cell? ⟨AAq, 1, none⟩ = some (.slice aq kq cq) ∧ w'.cell? ⟨AAq, 2, none⟩ = some (.bool dq) ∧ w'.cell? ⟨AAq, 3, none⟩ = some (.slice eq lq mq))) (by kernel_rfl) ⟨⟨gx0, gx1, gx2, gx3⟩, ⟨gp0, gp1, gp2, gp3⟩, ⟨gq0, gq1, gq2, gq3⟩⟩ (fun hR0 => ?_)
      change wpAnyH _ _ _ _ _ 10 #[false, false, false, false, false, false, false, false, false, false] _ _
      clear gx0 gx1 gx2 gx3 gp0 gp1 gp2 gp3 gq0 gq1 gq2 gq3
      refine tk (i := 0) (v := ?_) rfl (by kernel_rfl) (fun _ _ _ h => h) (by rfl) ?_ (by assumption) ?_
      rotate_left 1
      · (intro w hSw; (try dsimp only at hSw); go_simp <;> (with_reducible rfl))
      (try simp only [Act.put, List.setIfInBounds_toArray, List.set])
      refine tk (i := 1) (v := ?_) rfl (by kernel_rfl) (fun _ _ _ h => h) (by rfl) ?_ (by assumption) ?_
      rotate_left 1
      · (intro w hSw; (try dsimp only at hSw); go_simp <;> (with_reducible rfl))
      (try simp only [Act.put, List.setIfInBounds_toArray, List.set])
      refine tk (i := 2) (v := ?_) rfl (by kernel_rfl) (fun _ _ _ h => h) (by rfl) ?_ (by assumption) ?_
      rotate_left 1
      · (intro w hSw; (try dsimp only at hSw); go_simp <;> (with_reducible rfl))
      (try simp only [Act.put, List.setIfInBounds_toArray, List.set])
      refine tk (i := 3) (v := ?_) rfl (by kernel_rfl) (fun _ _ _ h => h) (by rfl) ?_ (by assumption) ?_
      rotate_left 1
      · (intro w hSw; (try dsimp only at hSw); go_simp <;> (with_reducible rfl))
      (try simp only [Act.put, List.setIfInBounds_toArray, List.set])
      refine tk (i := 4) (v := ?_) rfl (by kernel_rfl) (fun _ _ _ h => h) (by rfl) ?_ (by assumption) ?_
      rotate_left 1
      · (intro w hSw; (try dsimp only at hSw); go_simp <;> (with_reducible rfl))
      (try simp only [Act.put, List.setIfInBounds_toArray, List.set])
      refine tk (i := 5) (v := ?_) rfl (by kernel_rfl) (fun _ _ _ h => h) (by rfl) ?_ (by assumption) ?_
      rotate_left 1
      · (intro w hSw; (try dsimp only at hSw); go_simp <;> (with_reducible rfl))
      (try simp only [Act.put, List.setIfInBounds_toArray, List.set])
      refine rd1 (i := 6) (by kernel_rfl) rfl (fun K hK => ?_)
      go_simp
      go_at_call 49; have hBd := hB.drew; refine (HO.out _ _ _ (by exact gp) (by exact gq)).mono ?_; rintro e w17 ⟨⟨v1, rfl, g1⟩, hb⟩; replace hb := (Below.refl w16.heap.size w16).drew.trans hb; replace xjn := xjn.on hb; replace xjd := xjd.on hb; replace xjf := xjf.on hb; replace xx := xx.on hb; replace xp := xp.on hb; replace xq := xq.on hb; replace jn := jn.on hb; replace jd := jd.on hb; replace jf := jf.on hb; replace gx := gx.on hb; replace gp := gp.on hb; replace gq := gq.on hb; replace hB := hB.trans (hb.mono hB.size); have hz17 := hb.size
      (try go_wp2_with fail)
      refine hK.out _ _ (⟨keep4 hb qx hR0.1, keep4 hb qp hR0.2.1, keep4 hb qq hR0.2.2⟩) (fun hR1 => ?_)
      clear hK K hR0
      (try simp only [List.setIfInBounds_toArray, List.set])
      replace qx := Nat.lt_of_lt_of_le qx hz17; replace qp := Nat.lt_of_lt_of_le qp hz17; replace qq := Nat.lt_of_lt_of_le qq hz17; clear hb hBd
      refine rd1 (i := 7) (by kernel_rfl) rfl (fun K hK => ?_)
      go_simp
      go_at_call 43; have hBd := hB; refine (HE.out _ _ _ gx g1).mono ?_; rintro e w18 ⟨rfl, hb⟩; replace xjn := xjn.on hb; replace xjd := xjd.on hb; replace xjf := xjf.on hb; replace xx := xx.on hb; replace xp := xp.on hb; replace xq := xq.on hb; replace jn := jn.on hb; replace jd := jd.on hb; replace jf := jf.on hb; replace gx := gx.on hb; replace gp := gp.on hb; replace gq := gq.on hb; replace g1 := g1.on hb; replace hB := hB.trans (hb.mono hB.size); have hz18 := hb.size
      (try go_wp2_with fail)
      refine hK.out _ _ (⟨keep4 hb qx hR1.1, keep4 hb qp hR1.2.1, keep4 hb qq hR1.2.2⟩) (fun hR2 => ?_)
      clear hK K hR1
      (try simp only [List.setIfInBounds_toArray, List.set])
      replace qx := Nat.lt_of_lt_of_le qx hz18; replace qp := Nat.lt_of_lt_of_le qp hz18; replace qq := Nat.lt_of_lt_of_le qq hz18; clear hb hBd
      refine tk (i := 8) (v := ?_) rfl (by kernel_rfl) (fun _ _ _ h => h) (by rfl) ?_ (by assumption) ?_
      rotate_left 1
      · (intro w hSw; (try dsimp only at hSw); go_simp <;> (with_reducible rfl))
      (try simp only [Act.put, List.setIfInBounds_toArray, List.set])
      refine tk (i := 9) (v := ?_) rfl (by kernel_rfl) (fun _ _ _ h => h) (by rfl) ?_ (by assumption) ?_
      rotate_left 1
      · (intro w hSw; (try dsimp only at hSw); go_simp <;> (with_reducible rfl))
      (try simp only [Act.put, List.setIfInBounds_toArray, List.set])
      refine wpAnyH_done (by kernel_rfl) ?_ _
      refine NoPanic.normal ?_
      clear hR2 qx qp qq g1 gp gq xp xq
      by_cases hf0 : f = 0
      · skip
        have hk := (num_len jf).1
        rw [hf0, show (0 : Int).natAbs = 0 from rfl, dig_zero, List.length_nil] at hk
        subst hk
        have pjn := xjn.all2
        have pjd := xjd.all2
        have pjf := xjf.all2
        have px := xx.all4
        have ltjn := xjn.lt
        have ltjd := xjd.lt
        have ltjf := xjf.lt
        have ltx := xx.lt
        go_wp2
        go_ret
        exact ⟨rfl, hB⟩
      obtain ⟨er, fr, fr4⟩ := HPK.out
      have snf := Sz.mul sn sf
      have sdf := Sz.mul sd sf
      have hdf : d * f ≠ 0 := Int.mul_ne_zero hd0 hf0
      have erf : Rat.divInt (n * f) (d * f) = r := by rw [er]; exact Fq.divInt_of hdf rfl rfl
      have hx : r.num * d = n * (r.den : Int) := by rw [er]; exact cross hd0
      have s1 : Sz 80 (r.num * d) := Sz.mul fr4.1 sd
      have s2 : Sz 80 (n * (r.den : Int)) := Sz.mul sn fr4.2
      have HA := Lib.hid (fun va vb W (h : Num W va n) (k : Num W vb f) => Mul_num va vb n f (n * f) rfl (sn.len (by decide)) (sf.len (by decide)) (snf.len (by decide)) W h k)
      have HB := Lib.hid (fun va vb W (h : Num W va d) (k : Num W vb f) => Mul_num va vb d f (d * f) rfl (sd.len (by decide)) (sf.len (by decide)) (sdf.len (by decide)) W h k)
      have HY := Lib.hid (fun va vb W (h : Num W va (n * f)) (k : Num W vb (d * f)) => frMake_lit va vb (n * f) (d * f) r erf (snf.mono (by decide)) (sdf.mono (by decide)) hdf fr W h k)
      obtain ⟨z, ez⟩ : ∃ z, z = r.num * d := ⟨_, rfl⟩
      rw [← ez] at hx s1
      have HG := Lib.hid (fun va vb W (h : Num W va r.num) (k : Num W vb d) => Mul_num va vb r.num d z ez.symm (fr4.1.len (by decide)) (sd.len (by decide)) (s1.len (by decide)) W h k)
      have HH := Lib.hid (fun va vb W (h : Num W va n) (k : Num W vb (r.den : Int)) => Mul_num va vb n (r.den : Int) z hx.symm (sn.len (by decide)) (fr4.2.len (by decide)) (s1.len (by decide)) W h k)
      have HT := Lib.hid (fun va vb W (h : Num W va z) (k : Num W vb z) => Same_lit2 va vb z z true (decide_eq_true rfl) W h k)
      clear snf sdf hdf erf hx s1 s2 ez er fr fr4
      have hk := (num_len jf).1
      have hkf : ((kjf : Int) == 0) = false := by
        rw [beq_eq_false_iff_ne]; intro e; apply hf0
        have : dig f.natAbs = [] := List.eq_nil_of_length_eq_zero (by omega)
        have := (dig_nil_iff _).1 this; omega
      clear hk
      have pjn := xjn.all2
      have pjd := xjd.all2
      have pjf := xjf.all2
      have px := xx.all4
      have ltjn := xjn.lt
      have ltjd := xjd.lt
      have ltjf := xjf.lt
      have ltx := xx.lt
      go_wp2_with fail
      clear ltjn ltjd ltjf ltx pjn pjd pjf px hkf
      obtain ⟨-, -, gxn, gxd⟩ := fra_nums gx
      refine (HA.out _ _ _ jn jf).mono ?_
      rintro e w19 ⟨⟨v, rfl, fm⟩, hb⟩
      obtain ⟨bx1, ax1, kx1, cx1, rfl⟩ := fm.opened
      replace xjn := xjn.on hb; replace xjd := xjd.on hb; replace xjf := xjf.on hb; replace xx := xx.on hb; replace jn := jn.on hb; replace jd := jd.on hb; replace jf := jf.on hb; replace gx := gx.on hb; replace gxn := gxn.on hb; replace gxd := gxd.on hb
      have hz19 := hb.size
      try simp at hz19
      replace hB := hB.trans (hb.mono hB.size); clear hb
      have pjn := xjn.all2
      have pjd := xjd.all2
      have pjf := xjf.all2
      have px := xx.all4
      have ltjn := xjn.lt
      have ltjd := xjd.lt
      have ltjf := xjf.lt
      have ltx := xx.lt
      go_wp2_with fail
      clear ltjn ltjd ltjf ltx pjn pjd pjf px
      have hb := ((Below.refl w19.heap.size w19).alloc (Nat.le_refl _) (.cells #[.bool bx1, .slice ax1 kx1 cx1] 24))
      have xm : Bk _ w19.heap.size #[.bool bx1, .slice ax1 kx1 cx1] 24 := (Bk.new w19 #[.bool bx1, .slice ax1 kx1 cx1] 24)
      replace xjn := xjn.on hb; replace xjd := xjd.on hb; replace xjf := xjf.on hb; replace xx := xx.on hb; replace jn := jn.on hb; replace jd := jd.on hb; replace jf := jf.on hb; replace gx := gx.on hb; replace gxn := gxn.on hb; replace gxd := gxd.on hb; replace fm := fm.on hb; replace hB := hB.trans (hb.mono hB.size); clear hb
      obtain ⟨Wm, hWm⟩ : ∃ W, W = (w19.alloc (.cells #[.bool bx1, .slice ax1 kx1 cx1] 24)) := ⟨_, rfl⟩
      rw [← hWm] at hB xjn xjd xjf xx xm jn jd jf gx gxn gxd fm ⊢
      clear hWm
      refine (HB.out _ _ _ jd jf).mono ?_
      rintro e w20 ⟨⟨v, rfl, fk⟩, hb⟩
      obtain ⟨bx2, ax2, kx2, cx2, rfl⟩ := fk.opened
      replace xjn := xjn.on hb; replace xjd := xjd.on hb; replace xjf := xjf.on hb; replace xx := xx.on hb; replace xm := xm.on hb; replace jn := jn.on hb; replace jd := jd.on hb; replace jf := jf.on hb; replace gx := gx.on hb; replace gxn := gxn.on hb; replace gxd := gxd.on hb; replace fm := fm.on hb
      have hz20 := hb.size
      try simp at hz20
      replace hB := hB.trans (hb.mono hB.size); clear hb
      have pjn := xjn.all2
      have pjd := xjd.all2
      have pjf := xjf.all2
      have px := xx.all4
      have pm := xm.all2
      have ltjn := xjn.lt
      have ltjd := xjd.lt
      have ltjf := xjf.lt
      have ltx := xx.lt
      have ltm := xm.lt
      go_wp2_with fail
      clear ltjn ltjd ltjf ltx ltm pjn pjd pjf px pm
      have hb := ((Below.refl w20.heap.size w20).alloc (Nat.le_refl _) (.cells #[.bool bx2, .slice ax2 kx2 cx2] 24))
      have xk : Bk _ w20.heap.size #[.bool bx2, .slice ax2 kx2 cx2] 24 := (Bk.new w20 #[.bool bx2, .slice ax2 kx2 cx2] 24)
      replace xjn := xjn.on hb; replace xjd := xjd.on hb; replace xjf := xjf.on hb; replace xx := xx.on hb; replace xm := xm.on hb; replace jn := jn.on hb; replace jd := jd.on hb; replace jf := jf.on hb; replace gx := gx.on hb; replace gxn := gxn.on hb; replace gxd := gxd.on hb; replace fm := fm.on hb; replace fk := fk.on hb; replace hB := hB.trans (hb.mono hB.size); clear hb
      obtain ⟨Wk, hWk⟩ : ∃ W, W = (w20.alloc (.cells #[.bool bx2, .slice ax2 kx2 cx2] 24)) := ⟨_, rfl⟩
      rw [← hWk] at hB xjn xjd xjf xx xm xk jn jd jf gx gxn gxd fm fk ⊢
      clear hWk
      refine (HY.out _ _ _ fm fk).mono ?_
      rintro e w21 ⟨⟨v, rfl, fy⟩, hb⟩
      obtain ⟨bx3, ax3, kx3, cx3, dx3, ex3, lx3, mx3, rfl⟩ := fy.opened
      replace xjn := xjn.on hb; replace xjd := xjd.on hb; replace xjf := xjf.on hb; replace xx := xx.on hb; replace xm := xm.on hb; replace xk := xk.on hb; replace jn := jn.on hb; replace jd := jd.on hb; replace jf := jf.on hb; replace gx := gx.on hb; replace gxn := gxn.on hb; replace gxd := gxd.on hb; replace fm := fm.on hb; replace fk := fk.on hb
      have hz21 := hb.size
      try simp at hz21
      replace hB := hB.trans (hb.mono hB.size); clear hb
      have pjn := xjn.all2
      have pjd := xjd.all2
      have pjf := xjf.all2
      have px := xx.all4
      have pm := xm.all2
      have pk := xk.all2
      have ltjn := xjn.lt
      have ltjd := xjd.lt
      have ltjf := xjf.lt
      have ltx := xx.lt
      have ltm := xm.lt
      have ltk := xk.lt
      go_wp2_with fail
      clear ltjn ltjd ltjf ltx ltm ltk pjn pjd pjf px pm pk
      have hb := ((Below.refl w21.heap.size w21).alloc (Nat.le_refl _) (.cells #[.bool bx3, .slice ax3 kx3 cx3, .bool dx3, .slice ex3 lx3 mx3] 26))
      have xy : Bk _ w21.heap.size #[.bool bx3, .slice ax3 kx3 cx3, .bool dx3, .slice ex3 lx3 mx3] 26 := (Bk.new w21 #[.bool bx3, .slice ax3 kx3 cx3, .bool dx3, .slice ex3 lx3 mx3] 26)
      replace xjn := xjn.on hb; replace xjd := xjd.on hb; replace xjf := xjf.on hb; replace xx := xx.on hb; replace xm := xm.on hb; replace xk := xk.on hb; replace jn := jn.on hb; replace jd := jd.on hb; replace jf := jf.on hb; replace gx := gx.on hb; replace gxn := gxn.on hb; replace gxd := gxd.on hb; replace fm := fm.on hb; replace fk := fk.on hb; replace fy := fy.on hb; replace hB := hB.trans (hb.mono hB.size); clear hb
      obtain ⟨Wy, hWy⟩ : ∃ W, W = (w21.alloc (.cells #[.bool bx3, .slice ax3 kx3 cx3, .bool dx3, .slice ex3 lx3 mx3] 26)) := ⟨_, rfl⟩
      rw [← hWy] at hB xjn xjd xjf xx xm xk xy jn jd jf gx gxn gxd fm fk fy ⊢
      clear hWy fm fk xm xk
      refine (HG.out _ _ _ gxn jd).mono ?_
      rintro e w22 ⟨⟨v, rfl, fg⟩, hb⟩
      obtain ⟨bx4, ax4, kx4, cx4, rfl⟩ := fg.opened
      replace xjn := xjn.on hb; replace xjd := xjd.on hb; replace xjf := xjf.on hb; replace xx := xx.on hb; replace xy := xy.on hb; replace jn := jn.on hb; replace jd := jd.on hb; replace jf := jf.on hb; replace gx := gx.on hb; replace gxn := gxn.on hb; replace gxd := gxd.on hb; replace fy := fy.on hb
      have hz22 := hb.size
      try simp at hz22
      replace hB := hB.trans (hb.mono hB.size); clear hb
      have pjn := xjn.all2
      have pjd := xjd.all2
      have pjf := xjf.all2
      have px := xx.all4
      have py := xy.all4
      have ltjn := xjn.lt
      have ltjd := xjd.lt
      have ltjf := xjf.lt
      have ltx := xx.lt
      have lty := xy.lt
      go_wp2_with fail
      clear ltjn ltjd ltjf ltx lty pjn pjd pjf px py
      have hb := ((Below.refl w22.heap.size w22).alloc (Nat.le_refl _) (.cells #[.bool bx4, .slice ax4 kx4 cx4] 24))
      have xbk : Bk _ w22.heap.size #[.bool bx4, .slice ax4 kx4 cx4] 24 := (Bk.new w22 #[.bool bx4, .slice ax4 kx4 cx4] 24)
      replace xjn := xjn.on hb; replace xjd := xjd.on hb; replace xjf := xjf.on hb; replace xx := xx.on hb; replace xy := xy.on hb; replace jn := jn.on hb; replace jd := jd.on hb; replace jf := jf.on hb; replace gx := gx.on hb; replace gxn := gxn.on hb; replace gxd := gxd.on hb; replace fy := fy.on hb; replace fg := fg.on hb; replace hB := hB.trans (hb.mono hB.size); clear hb
      obtain ⟨Wbk, hWbk⟩ : ∃ W, W = (w22.alloc (.cells #[.bool bx4, .slice ax4 kx4 cx4] 24)) := ⟨_, rfl⟩
      rw [← hWbk] at hB xjn xjd xjf xx xy xbk jn jd jf gx gxn gxd fy fg ⊢
      clear hWbk
      refine (HH.out _ _ _ jn gxd).mono ?_
      rintro e w23 ⟨⟨v, rfl, fh⟩, hb⟩
      obtain ⟨bx5, ax5, kx5, cx5, rfl⟩ := fh.opened
      replace xjn := xjn.on hb; replace xjd := xjd.on hb; replace xjf := xjf.on hb; replace xx := xx.on hb; replace xy := xy.on hb; replace xbk := xbk.on hb; replace jn := jn.on hb; replace jd := jd.on hb; replace jf := jf.on hb; replace gx := gx.on hb; replace gxn := gxn.on hb; replace gxd := gxd.on hb; replace fy := fy.on hb; replace fg := fg.on hb
      have hz23 := hb.size
      try simp at hz23
      replace hB := hB.trans (hb.mono hB.size); clear hb
      have pjn := xjn.all2
      have pjd := xjd.all2
      have pjf := xjf.all2
      have px := xx.all4
      have py := xy.all4
      have pbk := xbk.all2
      have ltjn := xjn.lt
      have ltjd := xjd.lt
      have ltjf := xjf.lt
      have ltx := xx.lt
      have lty := xy.lt
      have ltbk := xbk.lt
      go_wp2_with fail
      clear ltjn ltjd ltjf ltx lty ltbk pjn pjd pjf px py pbk
      have hb := ((Below.refl w23.heap.size w23).alloc (Nat.le_refl _) (.cells #[.bool bx5, .slice ax5 kx5 cx5] 24))
      have xth : Bk _ w23.heap.size #[.bool bx5, .slice ax5 kx5 cx5] 24 := (Bk.new w23 #[.bool bx5, .slice ax5 kx5 cx5] 24)
      replace xjn := xjn.on hb; replace xjd := xjd.on hb; replace xjf := xjf.on hb; replace xx := xx.on hb; replace xy := xy.on hb; replace xbk := xbk.on hb; replace jn := jn.on hb; replace jd := jd.on hb; replace jf := jf.on hb; replace gx := gx.on hb; replace gxn := gxn.on hb; replace gxd := gxd.on hb; replace fy := fy.on hb; replace fg := fg.on hb; replace fh := fh.on hb; replace hB := hB.trans (hb.mono hB.size); clear hb
      obtain ⟨Wth, hWth⟩ : ∃ W, W = (w23.alloc (.cells #[.bool bx5, .slice ax5 kx5 cx5] 24)) := ⟨_, rfl⟩
      rw [← hWth] at hB xjn xjd xjf xx xy xbk xth jn jd jf gx gxn gxd fy fg fh ⊢
      clear hWth
      refine (HE.out _ _ _ gx fy).mono ?_
      rintro e w24 ⟨rfl, hb⟩
      replace xjn := xjn.on hb; replace xjd := xjd.on hb; replace xjf := xjf.on hb; replace xx := xx.on hb; replace xy := xy.on hb; replace xbk := xbk.on hb; replace xth := xth.on hb; replace jn := jn.on hb; replace jd := jd.on hb; replace jf := jf.on hb; replace gx := gx.on hb; replace gxn := gxn.on hb; replace gxd := gxd.on hb; replace fy := fy.on hb; replace fg := fg.on hb; replace fh := fh.on hb
      have hz24 := hb.size
      try simp at hz24
      replace hB := hB.trans (hb.mono hB.size); clear hb
      have pjn := xjn.all2
      have pjd := xjd.all2
      have pjf := xjf.all2
      have px := xx.all4
      have py := xy.all4
      have pbk := xbk.all2
      have pth := xth.all2
      have ltjn := xjn.lt
      have ltjd := xjd.lt
      have ltjf := xjf.lt
      have ltx := xx.lt
      have lty := xy.lt
      have ltbk := xbk.lt
      have ltth := xth.lt
      go_wp2_with fail
      clear ltjn ltjd ltjf ltx lty ltbk ltth pjn pjd pjf px py pbk pth
      refine (HT.out _ _ _ fg fh).mono ?_
      rintro e w25 ⟨rfl, hb⟩
      replace xjn := xjn.on hb; replace xjd := xjd.on hb; replace xjf := xjf.on hb; replace xx := xx.on hb; replace xy := xy.on hb; replace xbk := xbk.on hb; replace xth := xth.on hb; replace jn := jn.on hb; replace jd := jd.on hb; replace jf := jf.on hb; replace gx := gx.on hb; replace gxn := gxn.on hb; replace gxd := gxd.on hb; replace fy := fy.on hb; replace fg := fg.on hb; replace fh := fh.on hb
      have hz25 := hb.size
      try simp at hz25
      replace hB := hB.trans (hb.mono hB.size); clear hb
      go_wp2
      go_ret
      exact ⟨rfl, hB⟩
end Go.Proofs.YtnnnhjgmgomlpaaGreat
