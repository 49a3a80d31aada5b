/- A part of the proofs about fractions. -/
import Derived.Test.YtmbcnfogjncdaaaGreatQFl1
import Derived.Test.YtmbcnfogjncdaaaGreatQFl32
set_option maxRecDepth 100000
set_option maxHeartbeats 8000000
namespace Go.Proofs.YtmbcnfogjncdaaaGreat
open Go.RowKit Wh
def At2F (W wx : World) (v v' : Value) (C C' : Array Value) : Prop := ∃ A A', v = .pointer (some ⟨A, 0, none⟩) ∧ v' = .pointer (some ⟨A', 0, none⟩) ∧ Bk wx A C 39 ∧ Bk wx A' C' 39 ∧ W.heap.size ≤ A ∧ W.heap.size ≤ A' ∧ Below W.heap.size W wx
def FlRow (w : World) (L : Nat) (C1 C2 C3 : Array Value) (C : Array Value) (z0 z1 z2 : Rat) (wr : World) : Prop := Bk wr L C 39 ∧ Fra wr (.agg C1) z0 ∧ Fra wr (.agg C2) z1 ∧ Fra wr (.agg C3) z2 ∧ Below w.heap.size w wr
theorem FracLimits_longA (n k : Int) (x y N K r1 r2 : Nat) (hN : N < 1100) (hK : K < 1100) (hr1 : r1 < 14) (hr2 : r2 < 14) (hxl : x < 256) (hyl : y < 256) (q1 q2 : Rat) (hx : (x : Int).tmod 14 = (r1 : Int)) (hy : (y : Int).tmod 14 = (r2 : Int)) (hp1 : ∀ W, Calls Tryz.prog 36 #[.int .i64 n, .int .i64 1100] W fun e w' => e = .returned (.int .i64 (N : Int)) ∧ W = w') (hp2 : ∀ W, Calls Tryz.prog 36 #[.int .i64 k, .int .i64 1100] W fun e w' => e = .returned (.int .i64 (K : Int)) ∧ W = w') (hq1 : ∀ W, Calls Tryz.prog 38 #[.int .i64 (2 + (r1 : Int)), .int .i64 1] W fun e w' => (∃ v, e = .returned v ∧ Fra w' v q1) ∧ Below W.heap.size W w') (hq2 : ∀ W, Calls Tryz.prog 38 #[.int .i64 (2 + (r2 : Int)), .int .i64 1] W fun e w' => (∃ v, e = .returned v ∧ Fra w' v q2) ∧ Below W.heap.size W w') (T1 T2 : Option Rat) (ha1 : ∀ va W, Fra W va q1 → Calls Tryz.prog 37 #[va, .int .i64 (1 + (N : Int))] W fun e w' => (∃ v, e = .returned (.tuple #[v, .int .i64 3]) ∧ AnsF w' T1 3 v 3) ∧ Below W.heap.size W w') (ha2 : ∀ va W, Fra W va q2 → Calls Tryz.prog 37 #[va, .int .i64 (1 + (K : Int))] W fun e w' => (∃ v c, e = .returned (.tuple #[v, .int .i64 c]) ∧ AnsF w' T2 3 v c) ∧ Below W.heap.size W w') (hb1 : ∀ va W, Fra W va q1 → Calls Tryz.prog 39 #[va, .int .i64 (1 + (N : Int))] W fun e w' => (∃ v c, e = .returned (.tuple #[v, .int .i64 c]) ∧ AnsF w' T1 3 v c) ∧ Below W.heap.size W w') (hb2 : ∀ va W, Fra W va q2 → Calls Tryz.prog 39 #[va, .int .i64 (1 + (K : Int))] W fun e w' => (∃ v c, e = .returned (.tuple #[v, .int .i64 c]) ∧ AnsF w' T2 3 v c) ∧ Below W.heap.size W w') (w : World) :
  Calls Tryz.prog 6 #[.int .i64 n, .int .i64 k, .int .u8 (x : Int), .int .u8 (y : Int)] w fun e w' => e = .returned (.bool true) ∧ Below w.heap.size w w' := by
 have hN1 : (N : Int) < 1100 := by omega
 have hK1 : (K : Int) < 1100 := by omega
 have hr3 : (r1 : Int) < 14 := by omega
 have hr4 : (r2 : Int) < 14 := by omega
 have hx1 : (x : Int) < 256 := by omega
 have hy1 : (y : Int) < 256 := by omega
 have HP1 := Lib.hid hp1
 have HP2 := Lib.hid hp2
 have HQ1 := Lib.hid hq1
 have HQ2 := Lib.hid hq2
 have HA1 := Lib.hid ha1
 have HA2 := Lib.hid ha2
 have HB1 := Lib.hid hb1
 have HB2 := Lib.hid hb2
 clear hN hK hr1 hr2 hxl hyl hp1 hp2 hq1 hq2 ha1 ha2 hb1 hb2
 have HS := Lib.hid (fun va vb t cd c d W h g => same_ans va vb t cd c d W h g)
 have hB := Below.refl w.heap.size w
 go_enter Tryz.func6, Tryz.ntmps6
 go_wp2_with fail
 refine (HP1.out _).mono ?_
 rintro e w1 ⟨rfl, rfl⟩
 go_wp2_with fail
 refine (HP2.out _).mono ?_
 rintro e w1 ⟨rfl, rfl⟩
 go_wp2_with fail
 refine (HQ1.out _).mono ?_
 rintro e w1 ⟨⟨vq, rfl, gq⟩, hb⟩
 have hz1 := hb.size
 try simp at hz1
 replace hB := hB.trans (hb.mono hB.size); clear hb
 go_wp2_with fail
 refine (HA1.out _ _ gq).mono ?_
 rintro e w2 ⟨⟨v, rfl, ga⟩, hb⟩
 obtain ⟨ba, aa, ka, ca, da, ea, la, ma, rfl⟩ := ga.opened
 replace gq := gq.on hb
 have hz2 := hb.size
 try simp at hz2
 replace hB := hB.trans (hb.mono hB.size); clear hb gq
 go_wp2_with fail
 have hb := ((Below.refl w2.heap.size w2).alloc (Nat.le_refl _) (.cells #[.bool ba, .slice aa ka ca, .bool da, .slice ea la ma] 39))
 have xa : Bk _ w2.heap.size #[.bool ba, .slice aa ka ca, .bool da, .slice ea la ma] 39 := (Bk.new w2 #[.bool ba, .slice aa ka ca, .bool da, .slice ea la ma] 39)
 replace ga := ga.on hb; replace hB := hB.trans (hb.mono hB.size); clear hb
 obtain ⟨wla, hwla⟩ : ∃ W, W = (w2.alloc (.cells #[.bool ba, .slice aa ka ca, .bool da, .slice ea la ma] 39)) := ⟨_, rfl⟩
 rw [← hwla] at hB xa ga ⊢
 clear hwla
 have pa := xa.all4
 have lta := xa.lt
 go_wp2_with fail
 clear lta pa
 refine (HQ2.out _).mono ?_
 rintro e w3 ⟨⟨vq, rfl, gq⟩, hb⟩
 replace xa := xa.on hb; replace ga := ga.on hb
 have hz3 := hb.size
 try simp at hz3
 replace hB := hB.trans (hb.mono hB.size); clear hb
 have pa := xa.all4
 have lta := xa.lt
 go_wp2_with fail
 clear lta pa
 refine (HA2.out _ _ gq).mono ?_
 rintro e w4 ⟨⟨v, c2, rfl, gb⟩, hb⟩
 obtain ⟨bb, ab, kb, cb, db, eb, lb, mb, rfl⟩ := gb.opened
 replace xa := xa.on hb; replace ga := ga.on hb; replace gq := gq.on hb
 have hz4 := hb.size
 try simp at hz4
 replace hB := hB.trans (hb.mono hB.size); clear hb gq
 have pa := xa.all4
 have lta := xa.lt
 go_wp2_with fail
 clear lta pa
 have hb := ((Below.refl w4.heap.size w4).alloc (Nat.le_refl _) (.cells #[.bool bb, .slice ab kb cb, .bool db, .slice eb lb mb] 39))
 have xb : Bk _ w4.heap.size #[.bool bb, .slice ab kb cb, .bool db, .slice eb lb mb] 39 := (Bk.new w4 #[.bool bb, .slice ab kb cb, .bool db, .slice eb lb mb] 39)
 replace xa := xa.on hb; replace ga := ga.on hb; replace gb := gb.on hb; replace hB := hB.trans (hb.mono hB.size); clear hb
 obtain ⟨wlb, hwlb⟩ : ∃ W, W = (w4.alloc (.cells #[.bool bb, .slice ab kb cb, .bool db, .slice eb lb mb] 39)) := ⟨_, rfl⟩
 rw [← hwlb] at hB xa xb ga gb ⊢
 clear hwlb
 have pa := xa.all4
 have pb := xb.all4
 have lta := xa.lt
 have ltb := xb.lt
 go_wp2_with fail
 clear lta ltb pa pb
 refine (HQ1.out _).mono ?_
 rintro e w5 ⟨⟨vq, rfl, gq⟩, hb⟩
 replace xa := xa.on hb; replace xb := xb.on hb; replace ga := ga.on hb; replace gb := gb.on hb
 have hz5 := hb.size
 try simp at hz5
 replace hB := hB.trans (hb.mono hB.size); clear hb
 have pa := xa.all4
 have pb := xb.all4
 have lta := xa.lt
 have ltb := xb.lt
 go_wp2_with fail
 clear lta ltb pa pb
 refine (HB1.out _ _ gq).mono ?_
 rintro e w6 ⟨⟨v, c3, rfl, gc⟩, hb⟩
 obtain ⟨bc, ac, kc, cc, dc, ec, lc, mc, rfl⟩ := gc.opened
 replace xa := xa.on hb; replace xb := xb.on hb; replace ga := ga.on hb; replace gb := gb.on hb; replace gq := gq.on hb
 have hz6 := hb.size
 try simp at hz6
 replace hB := hB.trans (hb.mono hB.size); clear hb gq
 have pa := xa.all4
 have pb := xb.all4
 have lta := xa.lt
 have ltb := xb.lt
 go_wp2_with fail
 clear lta ltb pa pb
 have hb := ((Below.refl w6.heap.size w6).alloc (Nat.le_refl _) (.cells #[.bool bc, .slice ac kc cc, .bool dc, .slice ec lc mc] 39))
 have xc : Bk _ w6.heap.size #[.bool bc, .slice ac kc cc, .bool dc, .slice ec lc mc] 39 := (Bk.new w6 #[.bool bc, .slice ac kc cc, .bool dc, .slice ec lc mc] 39)
 replace xa := xa.on hb; replace xb := xb.on hb; replace ga := ga.on hb; replace gb := gb.on hb; replace gc := gc.on hb; replace hB := hB.trans (hb.mono hB.size); clear hb
 obtain ⟨wlc, hwlc⟩ : ∃ W, W = (w6.alloc (.cells #[.bool bc, .slice ac kc cc, .bool dc, .slice ec lc mc] 39)) := ⟨_, rfl⟩
 rw [← hwlc] at hB xa xb xc ga gb gc ⊢
 clear hwlc
 have pa := xa.all4
 have pb := xb.all4
 have pc := xc.all4
 have lta := xa.lt
 have ltb := xb.lt
 have ltc := xc.lt
 go_wp2_with fail
 clear lta ltb ltc pa pb pc
 refine (HQ2.out _).mono ?_
 rintro e w7 ⟨⟨vq, rfl, gq⟩, hb⟩
 replace xa := xa.on hb; replace xb := xb.on hb; replace xc := xc.on hb; replace ga := ga.on hb; replace gb := gb.on hb; replace gc := gc.on hb
 have hz7 := hb.size
 try simp at hz7
 replace hB := hB.trans (hb.mono hB.size); clear hb
 have pa := xa.all4
 have pb := xb.all4
 have pc := xc.all4
 have lta := xa.lt
 have ltb := xb.lt
 have ltc := xc.lt
 go_wp2_with fail
 clear lta ltb ltc pa pb pc
 refine (HB2.out _ _ gq).mono ?_
 rintro e w8 ⟨⟨v, c4, rfl, gd⟩, hb⟩
 obtain ⟨bd, ad, kd, cd, dd, ed, ld, md, rfl⟩ := gd.opened
 replace xa := xa.on hb; replace xb := xb.on hb; replace xc := xc.on hb; replace ga := ga.on hb; replace gb := gb.on hb; replace gc := gc.on hb; replace gq := gq.on hb
 have hz8 := hb.size
 try simp at hz8
 replace hB := hB.trans (hb.mono hB.size); clear hb gq
 have pa := xa.all4
 have pb := xb.all4
 have pc := xc.all4
 have lta := xa.lt
 have ltb := xb.lt
 have ltc := xc.lt
 go_wp2_with fail
 clear lta ltb ltc pa pb pc
 have hb := ((Below.refl w8.heap.size w8).alloc (Nat.le_refl _) (.cells #[.bool bd, .slice ad kd cd, .bool dd, .slice ed ld md] 39))
 have xd : Bk _ w8.heap.size #[.bool bd, .slice ad kd cd, .bool dd, .slice ed ld md] 39 := (Bk.new w8 #[.bool bd, .slice ad kd cd, .bool dd, .slice ed ld md] 39)
 replace xa := xa.on hb; replace xb := xb.on hb; replace xc := xc.on hb; replace ga := ga.on hb; replace gb := gb.on hb; replace gc := gc.on hb; replace gd := gd.on hb; replace hB := hB.trans (hb.mono hB.size); clear hb
 obtain ⟨wld, hwld⟩ : ∃ W, W = (w8.alloc (.cells #[.bool bd, .slice ad kd cd, .bool dd, .slice ed ld md] 39)) := ⟨_, rfl⟩
 rw [← hwld] at hB xa xb xc xd ga gb gc gd ⊢
 clear hwld
 have pa := xa.all4
 have pb := xb.all4
 have pc := xc.all4
 have pd := xd.all4
 have lta := xa.lt
 have ltb := xb.lt
 have ltc := xc.lt
 have ltd := xd.lt
 go_wp2_with fail
 clear lta ltb ltc ltd pa pb pc pd
 refine (HS.out _ _ _ _ _ _ _ gc ga).mono ?_
 rintro e w9 ⟨rfl, hb⟩
 replace xa := xa.on hb; replace xb := xb.on hb; replace xc := xc.on hb; replace xd := xd.on hb; replace ga := ga.on hb; replace gb := gb.on hb; replace gc := gc.on hb; replace gd := gd.on hb
 have hz9 := hb.size
 try simp at hz9
 replace hB := hB.trans (hb.mono hB.size); clear hb
 have pa := xa.all4
 have pb := xb.all4
 have pc := xc.all4
 have pd := xd.all4
 have lta := xa.lt
 have ltb := xb.lt
 have ltc := xc.lt
 have ltd := xd.lt
 go_wp2_with fail
 clear lta ltb ltc ltd pa pb pc pd
 refine (HS.out _ _ _ _ _ _ _ gd gb).mono ?_
 rintro e w10 ⟨rfl, hb⟩
 replace xa := xa.on hb; replace xb := xb.on hb; replace xc := xc.on hb; replace xd := xd.on hb; replace ga := ga.on hb; replace gb := gb.on hb; replace gc := gc.on hb; replace gd := gd.on hb
 have hz10 := hb.size
 try simp at hz10
 replace hB := hB.trans (hb.mono hB.size); clear hb
 have pa := xa.all4
 have pb := xb.all4
 have pc := xc.all4
 have pd := xd.all4
 have lta := xa.lt
 have ltb := xb.lt
 have ltc := xc.lt
 have ltd := xd.lt
 go_wp2_with fail
 clear lta ltb ltc ltd pa pb pc pd
 refine (law2_awake_any _).mono ?_
 rintro e w99 ⟨rfl, hb⟩
 go_wp2
 go_ret
 exact ⟨rfl, hB.trans (hb.mono hB.size)⟩
theorem FracLimits_longB (n k : Int) (x y N K r1 r2 : Nat) (hN : N < 1100) (hK : K < 1100) (hr1 : r1 < 14) (hr2 : r2 < 14) (hxl : x < 256) (hyl : y < 256) (q1 q2 : Rat) (hx : (x : Int).tmod 14 = (r1 : Int)) (hy : (y : Int).tmod 14 = (r2 : Int)) (hp1 : ∀ W, Calls Tryz.prog 36 #[.int .i64 n, .int .i64 1100] W fun e w' => e = .returned (.int .i64 (N : Int)) ∧ W = w') (hp2 : ∀ W, Calls Tryz.prog 36 #[.int .i64 k, .int .i64 1100] W fun e w' => e = .returned (.int .i64 (K : Int)) ∧ W = w') (hq1 : ∀ W, Calls Tryz.prog 38 #[.int .i64 (2 + (r1 : Int)), .int .i64 1] W fun e w' => (∃ v, e = .returned v ∧ Fra w' v q1) ∧ Below W.heap.size W w') (hq2 : ∀ W, Calls Tryz.prog 38 #[.int .i64 (2 + (r2 : Int)), .int .i64 1] W fun e w' => (∃ v, e = .returned v ∧ Fra w' v q2) ∧ Below W.heap.size W w') (T1 T2 : Option Rat) (ha1 : ∀ va W, Fra W va q1 → Calls Tryz.prog 37 #[va, .int .i64 (1 + (N : Int))] W fun e w' => (∃ v, e = .returned (.tuple #[v, .int .i64 0]) ∧ AnsF w' T1 3 v 0) ∧ Below W.heap.size W w') (ha2 : ∀ va W, Fra W va q2 → Calls Tryz.prog 37 #[va, .int .i64 (1 + (K : Int))] W fun e w' => (∃ v, e = .returned (.tuple #[v, .int .i64 3]) ∧ AnsF w' T2 3 v 3) ∧ Below W.heap.size W w') (hb1 : ∀ va W, Fra W va q1 → Calls Tryz.prog 39 #[va, .int .i64 (1 + (N : Int))] W fun e w' => (∃ v c, e = .returned (.tuple #[v, .int .i64 c]) ∧ AnsF w' T1 3 v c) ∧ Below W.heap.size W w') (hb2 : ∀ va W, Fra W va q2 → Calls Tryz.prog 39 #[va, .int .i64 (1 + (K : Int))] W fun e w' => (∃ v c, e = .returned (.tuple #[v, .int .i64 c]) ∧ AnsF w' T2 3 v c) ∧ Below W.heap.size W w') (w : World) :
  Calls Tryz.prog 6 #[.int .i64 n, .int .i64 k, .int .u8 (x : Int), .int .u8 (y : Int)] w fun e w' => e = .returned (.bool true) ∧ Below w.heap.size w w' := by
 have hN1 : (N : Int) < 1100 := by omega
 have hK1 : (K : Int) < 1100 := by omega
 have hr3 : (r1 : Int) < 14 := by omega
 have hr4 : (r2 : Int) < 14 := by omega
 have hx1 : (x : Int) < 256 := by omega
 have hy1 : (y : Int) < 256 := by omega
 have HP1 := Lib.hid hp1
 have HP2 := Lib.hid hp2
 have HQ1 := Lib.hid hq1
 have HQ2 := Lib.hid hq2
 have HA1 := Lib.hid ha1
 have HA2 := Lib.hid ha2
 have HB1 := Lib.hid hb1
 have HB2 := Lib.hid hb2
 clear hN hK hr1 hr2 hxl hyl hp1 hp2 hq1 hq2 ha1 ha2 hb1 hb2
 have HS := Lib.hid (fun va vb t cd c d W h g => same_ans va vb t cd c d W h g)
 have hB := Below.refl w.heap.size w
 go_enter Tryz.func6, Tryz.ntmps6
 go_wp2_with fail
 refine (HP1.out _).mono ?_
 rintro e w1 ⟨rfl, rfl⟩
 go_wp2_with fail
 refine (HP2.out _).mono ?_
 rintro e w1 ⟨rfl, rfl⟩
 go_wp2_with fail
 refine (HQ1.out _).mono ?_
 rintro e w1 ⟨⟨vq, rfl, gq⟩, hb⟩
 have hz1 := hb.size
 try simp at hz1
 replace hB := hB.trans (hb.mono hB.size); clear hb
 go_wp2_with fail
 refine (HA1.out _ _ gq).mono ?_
 rintro e w2 ⟨⟨v, rfl, ga⟩, hb⟩
 obtain ⟨ba, aa, ka, ca, da, ea, la, ma, rfl⟩ := ga.opened
 replace gq := gq.on hb
 have hz2 := hb.size
 try simp at hz2
 replace hB := hB.trans (hb.mono hB.size); clear hb gq
 go_wp2_with fail
 have hb := ((Below.refl w2.heap.size w2).alloc (Nat.le_refl _) (.cells #[.bool ba, .slice aa ka ca, .bool da, .slice ea la ma] 39))
 have xa : Bk _ w2.heap.size #[.bool ba, .slice aa ka ca, .bool da, .slice ea la ma] 39 := (Bk.new w2 #[.bool ba, .slice aa ka ca, .bool da, .slice ea la ma] 39)
 replace ga := ga.on hb; replace hB := hB.trans (hb.mono hB.size); clear hb
 obtain ⟨wla, hwla⟩ : ∃ W, W = (w2.alloc (.cells #[.bool ba, .slice aa ka ca, .bool da, .slice ea la ma] 39)) := ⟨_, rfl⟩
 rw [← hwla] at hB xa ga ⊢
 clear hwla
 have pa := xa.all4
 have lta := xa.lt
 go_wp2_with fail
 clear lta pa
 refine (HQ2.out _).mono ?_
 rintro e w3 ⟨⟨vq, rfl, gq⟩, hb⟩
 replace xa := xa.on hb; replace ga := ga.on hb
 have hz3 := hb.size
 try simp at hz3
 replace hB := hB.trans (hb.mono hB.size); clear hb
 have pa := xa.all4
 have lta := xa.lt
 go_wp2_with fail
 clear lta pa
 refine (HA2.out _ _ gq).mono ?_
 rintro e w4 ⟨⟨v, rfl, gb⟩, hb⟩
 obtain ⟨bb, ab, kb, cb, db, eb, lb, mb, rfl⟩ := gb.opened
 replace xa := xa.on hb; replace ga := ga.on hb; replace gq := gq.on hb
 have hz4 := hb.size
 try simp at hz4
 replace hB := hB.trans (hb.mono hB.size); clear hb gq
 have pa := xa.all4
 have lta := xa.lt
 go_wp2_with fail
 clear lta pa
 have hb := ((Below.refl w4.heap.size w4).alloc (Nat.le_refl _) (.cells #[.bool bb, .slice ab kb cb, .bool db, .slice eb lb mb] 39))
 have xb : Bk _ w4.heap.size #[.bool bb, .slice ab kb cb, .bool db, .slice eb lb mb] 39 := (Bk.new w4 #[.bool bb, .slice ab kb cb, .bool db, .slice eb lb mb] 39)
 replace xa := xa.on hb; replace ga := ga.on hb; replace gb := gb.on hb; replace hB := hB.trans (hb.mono hB.size); clear hb
 obtain ⟨wlb, hwlb⟩ : ∃ W, W = (w4.alloc (.cells #[.bool bb, .slice ab kb cb, .bool db, .slice eb lb mb] 39)) := ⟨_, rfl⟩
 rw [← hwlb] at hB xa xb ga gb ⊢
 clear hwlb
 have pa := xa.all4
 have pb := xb.all4
 have lta := xa.lt
 have ltb := xb.lt
 go_wp2_with fail
 clear lta ltb pa pb
 refine (HQ1.out _).mono ?_
 rintro e w5 ⟨⟨vq, rfl, gq⟩, hb⟩
 replace xa := xa.on hb; replace xb := xb.on hb; replace ga := ga.on hb; replace gb := gb.on hb
 have hz5 := hb.size
 try simp at hz5
 replace hB := hB.trans (hb.mono hB.size); clear hb
 have pa := xa.all4
 have pb := xb.all4
 have lta := xa.lt
 have ltb := xb.lt
 go_wp2_with fail
 clear lta ltb pa pb
 refine (HB1.out _ _ gq).mono ?_
 rintro e w6 ⟨⟨v, c3, rfl, gc⟩, hb⟩
 obtain ⟨bc, ac, kc, cc, dc, ec, lc, mc, rfl⟩ := gc.opened
 replace xa := xa.on hb; replace xb := xb.on hb; replace ga := ga.on hb; replace gb := gb.on hb; replace gq := gq.on hb
 have hz6 := hb.size
 try simp at hz6
 replace hB := hB.trans (hb.mono hB.size); clear hb gq
 have pa := xa.all4
 have pb := xb.all4
 have lta := xa.lt
 have ltb := xb.lt
 go_wp2_with fail
 clear lta ltb pa pb
 have hb := ((Below.refl w6.heap.size w6).alloc (Nat.le_refl _) (.cells #[.bool bc, .slice ac kc cc, .bool dc, .slice ec lc mc] 39))
 have xc : Bk _ w6.heap.size #[.bool bc, .slice ac kc cc, .bool dc, .slice ec lc mc] 39 := (Bk.new w6 #[.bool bc, .slice ac kc cc, .bool dc, .slice ec lc mc] 39)
 replace xa := xa.on hb; replace xb := xb.on hb; replace ga := ga.on hb; replace gb := gb.on hb; replace gc := gc.on hb; replace hB := hB.trans (hb.mono hB.size); clear hb
 obtain ⟨wlc, hwlc⟩ : ∃ W, W = (w6.alloc (.cells #[.bool bc, .slice ac kc cc, .bool dc, .slice ec lc mc] 39)) := ⟨_, rfl⟩
 rw [← hwlc] at hB xa xb xc ga gb gc ⊢
 clear hwlc
 have pa := xa.all4
 have pb := xb.all4
 have pc := xc.all4
 have lta := xa.lt
 have ltb := xb.lt
 have ltc := xc.lt
 go_wp2_with fail
 clear lta ltb ltc pa pb pc
 refine (HQ2.out _).mono ?_
 rintro e w7 ⟨⟨vq, rfl, gq⟩, hb⟩
 replace xa := xa.on hb; replace xb := xb.on hb; replace xc := xc.on hb; replace ga := ga.on hb; replace gb := gb.on hb; replace gc := gc.on hb
 have hz7 := hb.size
 try simp at hz7
 replace hB := hB.trans (hb.mono hB.size); clear hb
 have pa := xa.all4
 have pb := xb.all4
 have pc := xc.all4
 have lta := xa.lt
 have ltb := xb.lt
 have ltc := xc.lt
 go_wp2_with fail
 clear lta ltb ltc pa pb pc
 refine (HB2.out _ _ gq).mono ?_
 rintro e w8 ⟨⟨v, c4, rfl, gd⟩, hb⟩
 obtain ⟨bd, ad, kd, cd, dd, ed, ld, md, rfl⟩ := gd.opened
 replace xa := xa.on hb; replace xb := xb.on hb; replace xc := xc.on hb; replace ga := ga.on hb; replace gb := gb.on hb; replace gc := gc.on hb; replace gq := gq.on hb
 have hz8 := hb.size
 try simp at hz8
 replace hB := hB.trans (hb.mono hB.size); clear hb gq
 have pa := xa.all4
 have pb := xb.all4
 have pc := xc.all4
 have lta := xa.lt
 have ltb := xb.lt
 have ltc := xc.lt
 go_wp2_with fail
 clear lta ltb ltc pa pb pc
 have hb := ((Below.refl w8.heap.size w8).alloc (Nat.le_refl _) (.cells #[.bool bd, .slice ad kd cd, .bool dd, .slice ed ld md] 39))
 have xd : Bk _ w8.heap.size #[.bool bd, .slice ad kd cd, .bool dd, .slice ed ld md] 39 := (Bk.new w8 #[.bool bd, .slice ad kd cd, .bool dd, .slice ed ld md] 39)
 replace xa := xa.on hb; replace xb := xb.on hb; replace xc := xc.on hb; replace ga := ga.on hb; replace gb := gb.on hb; replace gc := gc.on hb; replace gd := gd.on hb; replace hB := hB.trans (hb.mono hB.size); clear hb
 obtain ⟨wld, hwld⟩ : ∃ W, W = (w8.alloc (.cells #[.bool bd, .slice ad kd cd, .bool dd, .slice ed ld md] 39)) := ⟨_, rfl⟩
 rw [← hwld] at hB xa xb xc xd ga gb gc gd ⊢
 clear hwld
 have pa := xa.all4
 have pb := xb.all4
 have pc := xc.all4
 have pd := xd.all4
 have lta := xa.lt
 have ltb := xb.lt
 have ltc := xc.lt
 have ltd := xd.lt
 go_wp2_with fail
 clear lta ltb ltc ltd pa pb pc pd
 refine (HS.out _ _ _ _ _ _ _ gc ga).mono ?_
 rintro e w9 ⟨rfl, hb⟩
 replace xa := xa.on hb; replace xb := xb.on hb; replace xc := xc.on hb; replace xd := xd.on hb; replace ga := ga.on hb; replace gb := gb.on hb; replace gc := gc.on hb; replace gd := gd.on hb
 have hz9 := hb.size
 try simp at hz9
 replace hB := hB.trans (hb.mono hB.size); clear hb
 have pa := xa.all4
 have pb := xb.all4
 have pc := xc.all4
 have pd := xd.all4
 have lta := xa.lt
 have ltb := xb.lt
 have ltc := xc.lt
 have ltd := xd.lt
 go_wp2_with fail
 clear lta ltb ltc ltd pa pb pc pd
 refine (HS.out _ _ _ _ _ _ _ gd gb).mono ?_
 rintro e w10 ⟨rfl, hb⟩
 replace xa := xa.on hb; replace xb := xb.on hb; replace xc := xc.on hb; replace xd := xd.on hb; replace ga := ga.on hb; replace gb := gb.on hb; replace gc := gc.on hb; replace gd := gd.on hb
 have hz10 := hb.size
 try simp at hz10
 replace hB := hB.trans (hb.mono hB.size); clear hb
 have pa := xa.all4
 have pb := xb.all4
 have pc := xc.all4
 have pd := xd.all4
 have lta := xa.lt
 have ltb := xb.lt
 have ltc := xc.lt
 have ltd := xd.lt
 go_wp2_with fail
 clear lta ltb ltc ltd pa pb pc pd
 refine (law2_awake_any _).mono ?_
 rintro e w99 ⟨rfl, hb⟩
 go_wp2
 go_ret
 exact ⟨rfl, hB.trans (hb.mono hB.size)⟩
theorem FracLimits_fit (n k : Int) (x y N K r1 r2 : Nat) (hN : N < 1100) (hK : K < 1100) (hr1 : r1 < 14) (hr2 : r2 < 14) (hxl : x < 256) (hyl : y < 256) (q1 q2 : Rat) (hx : (x : Int).tmod 14 = (r1 : Int)) (hy : (y : Int).tmod 14 = (r2 : Int)) (hp1 : ∀ W, Calls Tryz.prog 36 #[.int .i64 n, .int .i64 1100] W fun e w' => e = .returned (.int .i64 (N : Int)) ∧ W = w') (hp2 : ∀ W, Calls Tryz.prog 36 #[.int .i64 k, .int .i64 1100] W fun e w' => e = .returned (.int .i64 (K : Int)) ∧ W = w') (hq1 : ∀ W, Calls Tryz.prog 38 #[.int .i64 (2 + (r1 : Int)), .int .i64 1] W fun e w' => (∃ v, e = .returned v ∧ Fra w' v q1) ∧ Below W.heap.size W w') (hq2 : ∀ W, Calls Tryz.prog 38 #[.int .i64 (2 + (r2 : Int)), .int .i64 1] W fun e w' => (∃ v, e = .returned v ∧ Fra w' v q2) ∧ Below W.heap.size W w') (P Q z0 z1 z2 t : Rat) (TA1 TA2 TM1 TM2 : Option Rat) (ha1 : ∀ va W, Fra W va q1 → Calls Tryz.prog 37 #[va, .int .i64 (1 + (N : Int))] W fun e w' => (∃ v, e = .returned (.tuple #[v, .int .i64 0]) ∧ Fra w' v P) ∧ Below W.heap.size W w') (ha2 : ∀ va W, Fra W va q2 → Calls Tryz.prog 37 #[va, .int .i64 (1 + (K : Int))] W fun e w' => (∃ v, e = .returned (.tuple #[v, .int .i64 0]) ∧ Fra w' v Q) ∧ Below W.heap.size W w') (ho1 : ∀ va vb W, Fra W va P → Fra W vb Q → Calls Tryz.prog 40 #[va, vb] W fun e w' => (∃ v, e = .returned v ∧ Fra w' v z0) ∧ Below W.heap.size W w') (ho2 : ∀ va vb W, Fra W va Q → Fra W vb P → Calls Tryz.prog 40 #[va, vb] W fun e w' => (∃ v, e = .returned v ∧ Fra w' v z1) ∧ Below W.heap.size W w') (hq3 : ∀ W, Calls Tryz.prog 38 #[.int .i64 1, .int .i64 3] W fun e w' => (∃ v, e = .returned v ∧ Fra w' v t) ∧ Below W.heap.size W w') (hpl : ∀ va vb W, Fra W va z0 → Fra W vb t → Calls Tryz.prog 41 #[va, vb] W fun e w' => (∃ v, e = .returned v ∧ Fra w' v z2) ∧ Below W.heap.size W w') (had1 : Fz 256 256 z0 → Fz 256 256 z1 → (∀ va vb W, Fra W va z0 → Fra W vb z1 → Calls Tryz.prog 43 #[va, vb] W fun e w' => (∃ v c, e = .returned (.tuple #[v, .int .i64 c]) ∧ AnsF w' TA1 3 v c) ∧ Below W.heap.size W w') ∧ (∀ va vb W, Fra W va z0 → Fra W vb z1 → Calls Tryz.prog 44 #[va, vb] W fun e w' => (∃ v c, e = .returned (.tuple #[v, .int .i64 c]) ∧ AnsF w' TA1 3 v c) ∧ Below W.heap.size W w')) (had2 : Fz 256 256 z0 → Fz 256 256 z2 → (∀ va vb W, Fra W va z0 → Fra W vb z2 → Calls Tryz.prog 43 #[va, vb] W fun e w' => (∃ v c, e = .returned (.tuple #[v, .int .i64 c]) ∧ AnsF w' TA2 3 v c) ∧ Below W.heap.size W w') ∧ (∀ va vb W, Fra W va z0 → Fra W vb z2 → Calls Tryz.prog 44 #[va, vb] W fun e w' => (∃ v c, e = .returned (.tuple #[v, .int .i64 c]) ∧ AnsF w' TA2 3 v c) ∧ Below W.heap.size W w')) (hmu1 : Fz 256 256 z0 → Fz 256 256 z1 → (∀ va vb W, Fra W va z0 → Fra W vb z1 → Calls Tryz.prog 45 #[va, vb] W fun e w' => (∃ v c, e = .returned (.tuple #[v, .int .i64 c]) ∧ AnsF w' TM1 3 v c) ∧ Below W.heap.size W w') ∧ (∀ va vb W, Fra W va z0 → Fra W vb z1 → Calls Tryz.prog 46 #[va, vb] W fun e w' => (∃ v c, e = .returned (.tuple #[v, .int .i64 c]) ∧ AnsF w' TM1 3 v c) ∧ Below W.heap.size W w')) (hmu2 : Fz 256 256 z0 → Fz 256 256 z2 → (∀ va vb W, Fra W va z0 → Fra W vb z2 → Calls Tryz.prog 45 #[va, vb] W fun e w' => (∃ v c, e = .returned (.tuple #[v, .int .i64 c]) ∧ AnsF w' TM2 3 v c) ∧ Below W.heap.size W w') ∧ (∀ va vb W, Fra W va z0 → Fra W vb z2 → Calls Tryz.prog 46 #[va, vb] W fun e w' => (∃ v c, e = .returned (.tuple #[v, .int .i64 c]) ∧ AnsF w' TM2 3 v c) ∧ Below W.heap.size W w')) (w : World) :
  Calls Tryz.prog 6 #[.int .i64 n, .int .i64 k, .int .u8 (x : Int), .int .u8 (y : Int)] w fun e w' => e = .returned (.bool true) ∧ Below w.heap.size w w' := by
 have hN1 : (N : Int) < 1100 := by omega
 have hK1 : (K : Int) < 1100 := by omega
 have hr3 : (r1 : Int) < 14 := by omega
 have hr4 : (r2 : Int) < 14 := by omega
 have hx1 : (x : Int) < 256 := by omega
 have hy1 : (y : Int) < 256 := by omega
 have HP1 := Lib.hid hp1
 have HP2 := Lib.hid hp2
 have HQ1 := Lib.hid hq1
 have HQ2 := Lib.hid hq2
 have HA1 := Lib.hid ha1
 have HA2 := Lib.hid ha2
 have HO1 := Lib.hid ho1
 have HO2 := Lib.hid ho2
 have HQ3 := Lib.hid hq3
 have HPL := Lib.hid hpl
 have HAD1 := Lib.hid had1
 have HAD2 := Lib.hid had2
 have HMU1 := Lib.hid hmu1
 have HMU2 := Lib.hid hmu2
 clear hN hK hr1 hr2 hxl hyl hp1 hp2 hq1 hq2 ha1 ha2 ho1 ho2 hq3 hpl had1 had2 hmu1 hmu2
 have HS := Lib.hid (fun va vb t cd c d W h g => same_ans va vb t cd c d W h g)
 have hB := Below.refl w.heap.size w
 go_enter Tryz.func6, Tryz.ntmps6
 go_wp2_with fail
 refine (HP1.out _).mono ?_
 rintro e w1 ⟨rfl, rfl⟩
 go_wp2_with fail
 refine (HP2.out _).mono ?_
 rintro e w1 ⟨rfl, rfl⟩
 have HFi := Lib.hid (fun v z W (h : Fra W v z) => fits_fra v z W h)
 go_wp2_with fail
 refine (HQ1.out _).mono ?_
 rintro e w1 ⟨⟨vq, rfl, gq⟩, hb⟩
 have hz1 := hb.size
 try simp at hz1
 replace hB := hB.trans (hb.mono hB.size); clear hb
 go_wp2_with fail
 refine (HA1.out _ _ gq).mono ?_
 rintro e w2 ⟨⟨v, rfl, ga⟩, hb⟩
 obtain ⟨ba, aa, ka, ca, da, ea, la, ma, rfl⟩ := ga.opened
 replace gq := gq.on hb
 have hz2 := hb.size
 try simp at hz2
 replace hB := hB.trans (hb.mono hB.size); clear hb gq
 go_wp2_with fail
 have hb := ((Below.refl w2.heap.size w2).alloc (Nat.le_refl _) (.cells #[.bool ba, .slice aa ka ca, .bool da, .slice ea la ma] 39))
 have xa : Bk _ w2.heap.size #[.bool ba, .slice aa ka ca, .bool da, .slice ea la ma] 39 := (Bk.new w2 #[.bool ba, .slice aa ka ca, .bool da, .slice ea la ma] 39)
 replace ga := ga.on hb; replace hB := hB.trans (hb.mono hB.size); clear hb
 obtain ⟨wla, hwla⟩ : ∃ W, W = (w2.alloc (.cells #[.bool ba, .slice aa ka ca, .bool da, .slice ea la ma] 39)) := ⟨_, rfl⟩
 rw [← hwla] at hB xa ga ⊢
 clear hwla
 have pa := xa.all4
 have lta := xa.lt
 go_wp2_with fail
 clear lta pa
 refine (HQ2.out _).mono ?_
 rintro e w3 ⟨⟨vq, rfl, gq⟩, hb⟩
 replace xa := xa.on hb; replace ga := ga.on hb
 have hz3 := hb.size
 try simp at hz3
 replace hB := hB.trans (hb.mono hB.size); clear hb
 have pa := xa.all4
 have lta := xa.lt
 go_wp2_with fail
 clear lta pa
 refine (HA2.out _ _ gq).mono ?_
 rintro e w4 ⟨⟨v, rfl, gb⟩, hb⟩
 obtain ⟨bb, ab, kb, cb, db, eb, lb, mb, rfl⟩ := gb.opened
 replace xa := xa.on hb; replace ga := ga.on hb; replace gq := gq.on hb
 have hz4 := hb.size
 try simp at hz4
 replace hB := hB.trans (hb.mono hB.size); clear hb gq
 have pa := xa.all4
 have lta := xa.lt
 go_wp2_with fail
 clear lta pa
 have hb := ((Below.refl w4.heap.size w4).alloc (Nat.le_refl _) (.cells #[.bool bb, .slice ab kb cb, .bool db, .slice eb lb mb] 39))
 have xb : Bk _ w4.heap.size #[.bool bb, .slice ab kb cb, .bool db, .slice eb lb mb] 39 := (Bk.new w4 #[.bool bb, .slice ab kb cb, .bool db, .slice eb lb mb] 39)
 replace xa := xa.on hb; replace ga := ga.on hb; replace gb := gb.on hb; replace hB := hB.trans (hb.mono hB.size); clear hb
 obtain ⟨wlb, hwlb⟩ : ∃ W, W = (w4.alloc (.cells #[.bool bb, .slice ab kb cb, .bool db, .slice eb lb mb] 39)) := ⟨_, rfl⟩
 rw [← hwlb] at hB xa xb ga gb ⊢
 clear hwlb
 have pa := xa.all4
 have pb := xb.all4
 have lta := xa.lt
 have ltb := xb.lt
 go_wp2_with fail
 clear lta ltb pa pb
 obtain ⟨wa, hwa⟩ : ∃ W, W = wlb := ⟨_, rfl⟩
 rw [← hwa] at hB xa xb ga gb ⊢
 clear hwa
 have qa := xa.lt
 have qb := xb.lt
 obtain ⟨ga0, ga1, ga2, ga3⟩ := xa.cells4
 obtain ⟨gb0, gb1, gb2, gb3⟩ := xb.cells4
 refine wp_region_noPanic ?_
 refine wp_region_held_drew (S := (fun w' => (w'.cell? ⟨w2.heap.size, 0, none⟩ = some (.bool ba) ∧ w'.cell? ⟨w2.heap.size, 1, none⟩ = some (.slice aa ka ca) ∧ w'.cell? ⟨w2.heap.size, 2, none⟩ = some (.bool da) ∧ w'.cell? ⟨w2.heap.size, 3, none⟩ = some (.slice ea la ma)) ∧ w'.cell? ⟨w4.heap.size, 0, none⟩ = some (.bool bb) ∧ w'.cell? ⟨w4.heap.size, 1, none⟩ = some (.slice ab kb cb) ∧ w'.cell? ⟨w4.heap.size, 2, none⟩ = some (.bool db) ∧ w'.cell? ⟨w4.heap.size, 3, none⟩ = some (.slice eb lb mb))) (by kernel_rfl) ⟨⟨ga0, ga1, ga2, ga3⟩, ⟨gb0, gb1, gb2, gb3⟩⟩ (fun hR0 => ?_)
 change wpAnyH _ _ _ _ _ 13 #[false, false, false, false, false, false, false, false, false, false, false, false, false] _ _
 clear ga0 ga1 ga2 ga3 gb0 gb1 gb2 gb3
 refine tz 0 ?_
 (try simp only [Act.put, sa, List.set])
 refine tz 1 ?_
 (try simp only [Act.put, sa, List.set])
 refine tz 3 ?_
 (try simp only [Act.put, sa, List.set])
 refine tz 4 ?_
 (try simp only [Act.put, sa, List.set])
 refine tz 6 ?_
 (try simp only [Act.put, sa, List.set])
 refine tz 7 ?_
 (try simp only [Act.put, sa, List.set])
 refine rz 2 fun K hK => ?_
 go_simp
 go_at_call 40; have hBd := hB.drew; refine (HO1.out _ _ _ (by exact ga) (by exact gb)).mono ?_; rintro e w5 ⟨⟨v1, rfl, g0⟩, hb⟩; replace hb := (Below.refl wa.heap.size wa).drew.trans hb; obtain ⟨bg, ag, kg, cg, dg, eg, lg, mg, rfl⟩ := g0.opened; replace xa := xa.on hb; replace xb := xb.on hb; replace ga := ga.on hb; replace gb := gb.on hb; replace hB := hB.trans (hb.mono hB.size); have hz5 := hb.size
 (try go_wp2_with fail)
 refine hK.out _ _ (⟨keep4 hb qa hR0.1, keep4 hb qb hR0.2⟩) (fun hR1 => ?_)
 clear hK K hR0
 (try simp only [Act.put, sa, List.set])
 replace qa := Nat.lt_of_lt_of_le qa hz5; replace qb := Nat.lt_of_lt_of_le qb hz5; clear hb hBd
 refine rz 5 fun K hK => ?_
 go_simp
 go_at_call 40; have hBd := hB; refine (HO2.out _ _ _ gb ga).mono ?_; rintro e w6 ⟨⟨v2, rfl, g1⟩, hb⟩; obtain ⟨bh, ah, kh, ch, dh, eh, lh, mh, rfl⟩ := g1.opened; replace xa := xa.on hb; replace xb := xb.on hb; replace ga := ga.on hb; replace gb := gb.on hb; replace g0 := g0.on hb; replace hB := hB.trans (hb.mono hB.size); have hz6 := hb.size
 (try go_wp2_with fail)
 refine hK.out _ _ (⟨keep4 hb qa hR1.1, keep4 hb qb hR1.2⟩) (fun hR2 => ?_)
 clear hK K hR1
 (try simp only [Act.put, sa, List.set])
 replace qa := Nat.lt_of_lt_of_le qa hz6; replace qb := Nat.lt_of_lt_of_le qb hz6; clear hb hBd
 refine rz 8 fun K hK => ?_
 go_simp
 go_at_call 40; have hBd := hB; refine (HO1.out _ _ _ ga gb).mono ?_; rintro e w7 ⟨⟨v3, rfl, g3⟩, hb⟩; replace xa := xa.on hb; replace xb := xb.on hb; replace ga := ga.on hb; replace gb := gb.on hb; replace g0 := g0.on hb; replace g1 := g1.on hb; replace hB := hB.trans (hb.mono hB.size); have hz7 := hb.size
 (try go_wp2_with fail)
 refine hK.out _ _ (⟨keep4 hb qa hR2.1, keep4 hb qb hR2.2⟩) (fun hR3 => ?_)
 clear hK K hR2
 (try simp only [Act.put, sa, List.set])
 replace qa := Nat.lt_of_lt_of_le qa hz7; replace qb := Nat.lt_of_lt_of_le qb hz7; clear hb hBd
 refine rz 9 fun K hK => ?_
 go_simp
 go_at_call 38; have hBd := hB; refine (HQ3.out _).mono ?_; rintro e w8 ⟨⟨v4, rfl, g4⟩, hb⟩; replace xa := xa.on hb; replace xb := xb.on hb; replace ga := ga.on hb; replace gb := gb.on hb; replace g0 := g0.on hb; replace g1 := g1.on hb; replace g3 := g3.on hb; replace hB := hB.trans (hb.mono hB.size); have hz8 := hb.size
 (try go_wp2_with fail)
 refine hK.out _ _ (⟨keep4 hb qa hR3.1, keep4 hb qb hR3.2⟩) (fun hR4 => ?_)
 clear hK K hR3
 (try simp only [Act.put, sa, List.set])
 replace qa := Nat.lt_of_lt_of_le qa hz8; replace qb := Nat.lt_of_lt_of_le qb hz8; clear hb hBd
 refine rz 10 fun K hK => ?_
 go_simp
 go_at_call 41; have hBd := hB; refine (HPL.out _ _ _ g3 g4).mono ?_; rintro e w9 ⟨⟨v5, rfl, g2⟩, hb⟩; obtain ⟨bv, av, kv, cv, dv, ev, lv, mv, rfl⟩ := g2.opened; replace xa := xa.on hb; replace xb := xb.on hb; replace ga := ga.on hb; replace gb := gb.on hb; replace g0 := g0.on hb; replace g1 := g1.on hb; replace g3 := g3.on hb; replace g4 := g4.on hb; replace hB := hB.trans (hb.mono hB.size); have hz9 := hb.size
 (try go_wp2_with fail)
 refine hK.out _ _ (⟨keep4 hb qa hR4.1, keep4 hb qb hR4.2⟩) (fun hR5 => ?_)
 clear hK K hR4
 (try simp only [Act.put, sa, List.set])
 replace qa := Nat.lt_of_lt_of_le qa hz9; replace qb := Nat.lt_of_lt_of_le qb hz9; clear hb hBd
 have al := (Below.refl w9.heap.size w9).alloc (Nat.le_refl _) (.cells #[.bool bg, .slice ag kg cg, .bool dg, .slice eg lg mg, .bool bh, .slice ah kh ch, .bool dh, .slice eh lh mh, .bool bv, .slice av kv cv, .bool dv, .slice ev lv mv] 39)
 refine rz 11 fun K hK => ?_
 go_simp
 refine hK.out _ _ (⟨keep4 al qa hR5.1, keep4 al qb hR5.2⟩) (fun hR6 => ?_)
 clear hK K hR5
 (try simp only [Act.put, sa, List.set])
 clear al
 obtain ⟨al, xl, hN⟩ := mk hB #[.bool bg, .slice ag kg cg, .bool dg, .slice eg lg mg, .bool bh, .slice ah kh ch, .bool dh, .slice eh lh mh, .bool bv, .slice av kv cv, .bool dv, .slice ev lv mv] 39
 replace xa := xa.on al; replace xb := xb.on al; replace ga := ga.on al; replace gb := gb.on al; replace g0 := g0.on al; replace g1 := g1.on al; replace g3 := g3.on al; replace g4 := g4.on al; replace g2 := g2.on al; replace hB := hN; clear al hN
 try simp only [World.size_alloc] at xl
 refine tz 12 ?_
 (try simp only [Act.put, sa, List.set])
 refine wpAnyH_done (by kernel_rfl) ?_ _
 refine NoPanic.normal ?_
 clear hR6 qa qb ga gb g3 g4 xa xb HO1 HO2 HQ3 HPL HA1 HA2 HQ1 HQ2 HP1 HP2
 obtain ⟨L, hL⟩ : ∃ L, L = w9.heap.size := ⟨_, rfl⟩
 rw [← hL] at xl ⊢
 clear hL
 go_wp2_with fail
 go_loopw [18] (fun i wr => FlRow w L #[.bool bg, .slice ag kg cg, .bool dg, .slice eg lg mg] #[.bool bh, .slice ah kh ch, .bool dh, .slice eh lh mh] #[.bool bv, .slice av kv cv, .bool dv, .slice ev lv mv] #[.bool bg, .slice ag kg cg, .bool dg, .slice eg lg mg, .bool bh, .slice ah kh ch, .bool dh, .slice eh lh mh, .bool bv, .slice av kv cv, .bool dv, .slice ev lv mv] z0 z1 z2 wr ∧ (i = .int .i64 0 ∨ i = .int .i64 1 ∧ Fz 256 256 z0 ∨ i = .int .i64 2 ∧ Fz 256 256 z0 ∧ Fz 256 256 z1 ∨ i = .int .i64 3 ∧ Fz 256 256 z0 ∧ Fz 256 256 z1 ∧ Fz 256 256 z2)) (fun i _ => (3 - intOf i).toNat)
 case atStart => exact ⟨⟨xl, g0, g1, g2, hB⟩, .inl rfl⟩
 case round =>
  clear xl g0 g1 g2 hB
  obtain ⟨⟨xl, g0, g1, g2, hB⟩, hi⟩ := hrel
  rcases hi with rfl | ⟨rfl, f0⟩ | ⟨rfl, f0, f1⟩ | ⟨rfl, f0, f1, f2⟩
  ·
   have pl0 := xl.cell 0
   have fl0 := xl.free 0
   have pl1 := xl.cell 1
   have fl1 := xl.free 1
   have pl2 := xl.cell 2
   have fl2 := xl.free 2
   have pl3 := xl.cell 3
   have fl3 := xl.free 3
   have pl4 := xl.cell 4
   have fl4 := xl.free 4
   have pl5 := xl.cell 5
   have fl5 := xl.free 5
   have pl6 := xl.cell 6
   have fl6 := xl.free 6
   have pl7 := xl.cell 7
   have fl7 := xl.free 7
   have pl8 := xl.cell 8
   have fl8 := xl.free 8
   have pl9 := xl.cell 9
   have fl9 := xl.free 9
   have pl10 := xl.cell 10
   have fl10 := xl.free 10
   have pl11 := xl.cell 11
   have fl11 := xl.free 11
   simp only [List.getElem?_toArray, List.getElem?_cons_zero, List.getElem?_cons_succ] at pl0 pl1 pl2 pl3 pl4 pl5 pl6 pl7 pl8 pl9 pl10 pl11
   have ltl := xl.lt
   go_wp2_with fail
   clear ltl pl0 fl0 pl1 fl1 pl2 fl2 pl3 fl3 pl4 fl4 pl5 fl5 pl6 fl6 pl7 fl7 pl8 fl8 pl9 fl9 pl10 fl10 pl11 fl11
   refine (HFi.out _ _ _ g0).mono ?_
   rintro e w6 ⟨rfl, hb⟩
   replace xl := xl.on hb; replace g0 := g0.on hb; replace g1 := g1.on hb; replace g2 := g2.on hb; replace hB := hB.trans (hb.mono hB.size); clear hb
   cases hfb : fitB z0 with
   | false =>
    clear hfb
    go_wp2_with fail
    refine (law2_awake_any _).mono ?_
    rintro e w99 ⟨rfl, hb⟩
    go_wp2
    go_ret
    exact ⟨rfl, hB.trans (hb.mono hB.size)⟩
   | true =>
    have HFB := Lib.hid (fitB_iff.1 hfb)
    clear hfb
    go_wp2_with fail
    exact ⟨⟨⟨xl, g0, g1, g2, hB⟩, .inr (.inl ⟨rfl, HFB.out⟩)⟩, by simp [intOf]⟩
  ·
   have F0 := Lib.hid f0
   clear f0
   have pl0 := xl.cell 0
   have fl0 := xl.free 0
   have pl1 := xl.cell 1
   have fl1 := xl.free 1
   have pl2 := xl.cell 2
   have fl2 := xl.free 2
   have pl3 := xl.cell 3
   have fl3 := xl.free 3
   have pl4 := xl.cell 4
   have fl4 := xl.free 4
   have pl5 := xl.cell 5
   have fl5 := xl.free 5
   have pl6 := xl.cell 6
   have fl6 := xl.free 6
   have pl7 := xl.cell 7
   have fl7 := xl.free 7
   have pl8 := xl.cell 8
   have fl8 := xl.free 8
   have pl9 := xl.cell 9
   have fl9 := xl.free 9
   have pl10 := xl.cell 10
   have fl10 := xl.free 10
   have pl11 := xl.cell 11
   have fl11 := xl.free 11
   simp only [List.getElem?_toArray, List.getElem?_cons_zero, List.getElem?_cons_succ] at pl0 pl1 pl2 pl3 pl4 pl5 pl6 pl7 pl8 pl9 pl10 pl11
   have ltl := xl.lt
   go_wp2_with fail
   clear ltl pl0 fl0 pl1 fl1 pl2 fl2 pl3 fl3 pl4 fl4 pl5 fl5 pl6 fl6 pl7 fl7 pl8 fl8 pl9 fl9 pl10 fl10 pl11 fl11
   refine (HFi.out _ _ _ g1).mono ?_
   rintro e w6 ⟨rfl, hb⟩
   replace xl := xl.on hb; replace g0 := g0.on hb; replace g1 := g1.on hb; replace g2 := g2.on hb; replace hB := hB.trans (hb.mono hB.size); clear hb
   cases hfb : fitB z1 with
   | false =>
    clear hfb
    go_wp2_with fail
    refine (law2_awake_any _).mono ?_
    rintro e w99 ⟨rfl, hb⟩
    go_wp2
    go_ret
    exact ⟨rfl, hB.trans (hb.mono hB.size)⟩
   | true =>
    have HFB := Lib.hid (fitB_iff.1 hfb)
    clear hfb
    go_wp2_with fail
    exact ⟨⟨⟨xl, g0, g1, g2, hB⟩, .inr (.inr (.inl ⟨rfl, F0.out, HFB.out⟩))⟩, by simp [intOf]⟩
  ·
   have F0 := Lib.hid f0
   have F1 := Lib.hid f1
   clear f0 f1
   have pl0 := xl.cell 0
   have fl0 := xl.free 0
   have pl1 := xl.cell 1
   have fl1 := xl.free 1
   have pl2 := xl.cell 2
   have fl2 := xl.free 2
   have pl3 := xl.cell 3
   have fl3 := xl.free 3
   have pl4 := xl.cell 4
   have fl4 := xl.free 4
   have pl5 := xl.cell 5
   have fl5 := xl.free 5
   have pl6 := xl.cell 6
   have fl6 := xl.free 6
   have pl7 := xl.cell 7
   have fl7 := xl.free 7
   have pl8 := xl.cell 8
   have fl8 := xl.free 8
   have pl9 := xl.cell 9
   have fl9 := xl.free 9
   have pl10 := xl.cell 10
   have fl10 := xl.free 10
   have pl11 := xl.cell 11
   have fl11 := xl.free 11
   simp only [List.getElem?_toArray, List.getElem?_cons_zero, List.getElem?_cons_succ] at pl0 pl1 pl2 pl3 pl4 pl5 pl6 pl7 pl8 pl9 pl10 pl11
   have ltl := xl.lt
   go_wp2_with fail
   clear ltl pl0 fl0 pl1 fl1 pl2 fl2 pl3 fl3 pl4 fl4 pl5 fl5 pl6 fl6 pl7 fl7 pl8 fl8 pl9 fl9 pl10 fl10 pl11 fl11
   refine (HFi.out _ _ _ g2).mono ?_
   rintro e w6 ⟨rfl, hb⟩
   replace xl := xl.on hb; replace g0 := g0.on hb; replace g1 := g1.on hb; replace g2 := g2.on hb; replace hB := hB.trans (hb.mono hB.size); clear hb
   cases hfb : fitB z2 with
   | false =>
    clear hfb
    go_wp2_with fail
    refine (law2_awake_any _).mono ?_
    rintro e w99 ⟨rfl, hb⟩
    go_wp2
    go_ret
    exact ⟨rfl, hB.trans (hb.mono hB.size)⟩
   | true =>
    have HFB := Lib.hid (fitB_iff.1 hfb)
    clear hfb
    go_wp2_with fail
    exact ⟨⟨⟨xl, g0, g1, g2, hB⟩, .inr (.inr (.inr ⟨rfl, F0.out, F1.out, HFB.out⟩))⟩, by simp [intOf]⟩
  ·
   have HAD1x := Lib.hid (HAD1.out f0 f1)
   have HAD2x := Lib.hid (HAD2.out f0 f2)
   have HMU1x := Lib.hid (HMU1.out f0 f1)
   have HMU2x := Lib.hid (HMU2.out f0 f2)
   clear f0 f1 f2 HAD1 HAD2 HMU1 HMU2
   go_wp2_with fail
   go_loopw [19] (fun i wr => FlRow w L #[.bool bg, .slice ag kg cg, .bool dg, .slice eg lg mg] #[.bool bh, .slice ah kh ch, .bool dh, .slice eh lh mh] #[.bool bv, .slice av kv cv, .bool dv, .slice ev lv mv] #[.bool bg, .slice ag kg cg, .bool dg, .slice eg lg mg, .bool bh, .slice ah kh ch, .bool dh, .slice eh lh mh, .bool bv, .slice av kv cv, .bool dv, .slice ev lv mv] z0 z1 z2 wr ∧ (i = .int .i64 1 ∨ i = .int .i64 2 ∨ i = .int .i64 3)) (fun i _ => (3 - intOf i).toNat)
   case atStart => exact ⟨⟨xl, g0, g1, g2, hB⟩, .inl rfl⟩
   case round =>
    clear xl g0 g1 g2 hB
    obtain ⟨⟨xl, g0, g1, g2, hB⟩, hi⟩ := hrel
    rcases hi with rfl | rfl | rfl
    ·
     have pl0 := xl.cell 0
     have fl0 := xl.free 0
     have pl1 := xl.cell 1
     have fl1 := xl.free 1
     have pl2 := xl.cell 2
     have fl2 := xl.free 2
     have pl3 := xl.cell 3
     have fl3 := xl.free 3
     have pl4 := xl.cell 4
     have fl4 := xl.free 4
     have pl5 := xl.cell 5
     have fl5 := xl.free 5
     have pl6 := xl.cell 6
     have fl6 := xl.free 6
     have pl7 := xl.cell 7
     have fl7 := xl.free 7
     have pl8 := xl.cell 8
     have fl8 := xl.free 8
     have pl9 := xl.cell 9
     have fl9 := xl.free 9
     have pl10 := xl.cell 10
     have fl10 := xl.free 10
     have pl11 := xl.cell 11
     have fl11 := xl.free 11
     simp only [List.getElem?_toArray, List.getElem?_cons_zero, List.getElem?_cons_succ] at pl0 pl1 pl2 pl3 pl4 pl5 pl6 pl7 pl8 pl9 pl10 pl11
     have ltl := xl.lt
     go_wp2_with fail
     clear ltl pl0 fl0 pl1 fl1 pl2 fl2 pl3 fl3 pl4 fl4 pl5 fl5 pl6 fl6 pl7 fl7 pl8 fl8 pl9 fl9 pl10 fl10 pl11 fl11
     go_cut [20, 21] (fun s20 s21 wx => At2F wr wx s20 s21 #[.bool bg, .slice ag kg cg, .bool dg, .slice eg lg mg] #[.bool bh, .slice ah kh ch, .bool dh, .slice eh lh mh])
     case first =>
      have hM : Below wr.heap.size wr wr.drew := (Below.refl wr.heap.size wr).drew
      have gl0 := xl.cell 0
      have gl1 := xl.cell 1
      have gl2 := xl.cell 2
      have gl3 := xl.cell 3
      have gl4 := xl.cell 4
      have gl5 := xl.cell 5
      have gl6 := xl.cell 6
      have gl7 := xl.cell 7
      have gl8 := xl.cell 8
      have gl9 := xl.cell 9
      have gl10 := xl.cell 10
      have gl11 := xl.cell 11
      simp only [List.getElem?_toArray, List.getElem?_cons_zero, List.getElem?_cons_succ] at gl0 gl1 gl2 gl3 gl4 gl5 gl6 gl7 gl8 gl9 gl10 gl11
      replace xl := xl.on hM
      refine wp_region_noPanic ?_
      refine wp_region_held_drew (S := (fun w' => (w'.cell? ⟨L, 0, none⟩ = some (.bool bg) ∧ w'.cell? ⟨L, 1, none⟩ = some (.slice ag kg cg) ∧ w'.cell? ⟨L, 2, none⟩ = some (.bool dg) ∧ w'.cell? ⟨L, 3, none⟩ = some (.slice eg lg mg)) ∧ w'.cell? ⟨L, 4, none⟩ = some (.bool bh) ∧ w'.cell? ⟨L, 5, none⟩ = some (.slice ah kh ch) ∧ w'.cell? ⟨L, 6, none⟩ = some (.bool dh) ∧ w'.cell? ⟨L, 7, none⟩ = some (.slice eh lh mh) ∧ w'.cell? ⟨L, 8, none⟩ = some (.bool bv) ∧ w'.cell? ⟨L, 9, none⟩ = some (.slice av kv cv) ∧ w'.cell? ⟨L, 10, none⟩ = some (.bool dv) ∧ w'.cell? ⟨L, 11, none⟩ = some (.slice ev lv mv))) (by kernel_rfl) ⟨⟨gl0, gl1, gl2, gl3⟩, gl4, gl5, gl6, gl7, gl8, gl9, gl10, gl11⟩ (fun hR0 => ?_)
      change wpAnyH _ _ _ _ _ 11 #[false, false, false, false, false, false, false, false, false, false, false] _ _
      clear gl0 gl1 gl2 gl3 gl4 gl5 gl6 gl7 gl8 gl9 gl10 gl11
      generalize wr.drew = wd at *
      have ql := xl.lt
      refine tz 0 ?_
      (try simp only [Act.put, sa, List.set])
      refine tz 1 ?_
      (try simp only [Act.put, sa, List.set])
      refine tz 2 ?_
      (try simp only [Act.put, sa, List.set])
      refine tz 3 ?_
      (try simp only [Act.put, sa, List.set])
      refine tz 4 ?_
      (try simp only [Act.put, sa, List.set])
      refine tz 5 ?_
      (try simp only [Act.put, sa, List.set])
      refine tz 6 ?_
      (try simp only [Act.put, sa, List.set])
      refine rd2 (i := 7) (j := 8) (by kernel_rfl) rfl rfl (fun K hK => ?_) (fun K hK => ?_)
      ·
       have nls : wd.heap.size ≠ L := (by have := xl.lt; omega)
       have hb := (Below.refl wd.heap.size wd).alloc (Nat.le_refl _) (.cells #[.bool false, .slice none 0 0, .bool false, .slice none 0 0] 39)
       go_simp
       refine hK.out _ _ (⟨keep4 hb ql hR0.1, (hb.cell (p := ⟨L, 4, none⟩) ql).trans hR0.2.1, (hb.cell (p := ⟨L, 5, none⟩) ql).trans hR0.2.2.1, (hb.cell (p := ⟨L, 6, none⟩) ql).trans hR0.2.2.2.1, (hb.cell (p := ⟨L, 7, none⟩) ql).trans hR0.2.2.2.2.1, (hb.cell (p := ⟨L, 8, none⟩) ql).trans hR0.2.2.2.2.2.1, (hb.cell (p := ⟨L, 9, none⟩) ql).trans hR0.2.2.2.2.2.2.1, (hb.cell (p := ⟨L, 10, none⟩) ql).trans hR0.2.2.2.2.2.2.2.1, (hb.cell (p := ⟨L, 11, none⟩) ql).trans hR0.2.2.2.2.2.2.2.2⟩) (fun hR1 => ?_)
       clear hK K hR0
       (try simp only [Act.put, sa, List.set])
       have xs := Bk.new wd #[.bool false, .slice none 0 0, .bool false, .slice none 0 0] 39
       have ls := hM.size
       replace xl := xl.on hb; replace hM := hM.trans (hb.mono hM.size); clear hb ql
       generalize hA : wd.heap.size = As at *
       generalize wd.alloc (.cells #[.bool false, .slice none 0 0, .bool false, .slice none 0 0] 39) = wc1 at *
       clear hA
       have ql := xl.lt
       have nle : wc1.heap.size ≠ L := (by have := xl.lt; omega)
       have mse : As ≠ wc1.heap.size := (by have := xs.lt; omega)
       have hb := (Below.refl wc1.heap.size wc1).alloc (Nat.le_refl _) (.cells #[.bool false, .slice none 0 0, .bool false, .slice none 0 0] 39)
       refine rz 8 fun K hK => ?_
       go_simp
       refine hK.out _ _ (⟨keep4 hb ql hR1.1, (hb.cell (p := ⟨L, 4, none⟩) ql).trans hR1.2.1, (hb.cell (p := ⟨L, 5, none⟩) ql).trans hR1.2.2.1, (hb.cell (p := ⟨L, 6, none⟩) ql).trans hR1.2.2.2.1, (hb.cell (p := ⟨L, 7, none⟩) ql).trans hR1.2.2.2.2.1, (hb.cell (p := ⟨L, 8, none⟩) ql).trans hR1.2.2.2.2.2.1, (hb.cell (p := ⟨L, 9, none⟩) ql).trans hR1.2.2.2.2.2.2.1, (hb.cell (p := ⟨L, 10, none⟩) ql).trans hR1.2.2.2.2.2.2.2.1, (hb.cell (p := ⟨L, 11, none⟩) ql).trans hR1.2.2.2.2.2.2.2.2⟩) (fun hR2 => ?_)
       clear hK K hR1
       (try simp only [Act.put, sa, List.set])
       have xe := Bk.new wc1 #[.bool false, .slice none 0 0, .bool false, .slice none 0 0] 39
       have le := hM.size
       replace xl := xl.on hb; replace xs := xs.on hb; replace hM := hM.trans (hb.mono hM.size); clear hb ql
       generalize hA : wc1.heap.size = Ae at *
       generalize wc1.alloc (.cells #[.bool false, .slice none 0 0, .bool false, .slice none 0 0] 39) = wc2 at *
       clear hA
       have ql := xl.lt
       have uc0 := xs.cell 0
       have uf0 := xs.free 0
       have uc1 := xs.cell 1
       have uf1 := xs.free 1
       have uc2 := xs.cell 2
       have uf2 := xs.free 2
       have uc3 := xs.cell 3
       have uf3 := xs.free 3
       simp only [List.getElem?_toArray, List.getElem?_cons_zero, List.getElem?_cons_succ] at uc0 uc1 uc2 uc3
       refine rz 9 fun K hK => ?_
       go_simp
       refine hK.out _ _ (⟨stay4 hR2.1 nls, cell_store4 hR2.2.1 nls, cell_store4 hR2.2.2.1 nls, cell_store4 hR2.2.2.2.1 nls, cell_store4 hR2.2.2.2.2.1 nls, cell_store4 hR2.2.2.2.2.2.1 nls, cell_store4 hR2.2.2.2.2.2.2.1 nls, cell_store4 hR2.2.2.2.2.2.2.2.1 nls, cell_store4 hR2.2.2.2.2.2.2.2.2 nls⟩) (fun hR3 => ?_)
       clear hK K hR2
       (try simp only [Act.put, sa, List.set])
       clear uc0 uf0 uc1 uf1 uc2 uf2 uc3 uf3 ql; replace xl := xl.put_other4 As (.bool bg) (.slice ag kg cg) (.bool dg) (.slice eg lg mg) (by omega); replace xe := xe.put_other4 As (.bool bg) (.slice ag kg cg) (.bool dg) (.slice eg lg mg) (by omega); replace hM := below4 hM As ls (.bool bg) (.slice ag kg cg) (.bool dg) (.slice eg lg mg); replace xs := xs.put4 (.bool bg) (.slice ag kg cg) (.bool dg) (.slice eg lg mg)
       have ql := xl.lt
       have uc0 := xe.cell 0
       have uf0 := xe.free 0
       have uc1 := xe.cell 1
       have uf1 := xe.free 1
       have uc2 := xe.cell 2
       have uf2 := xe.free 2
       have uc3 := xe.cell 3
       have uf3 := xe.free 3
       simp only [List.getElem?_toArray, List.getElem?_cons_zero, List.getElem?_cons_succ] at uc0 uc1 uc2 uc3
       refine rz 10 fun K hK => ?_
       go_simp
       refine hK.out _ _ (⟨stay4 hR3.1 nle, cell_store4 hR3.2.1 nle, cell_store4 hR3.2.2.1 nle, cell_store4 hR3.2.2.2.1 nle, cell_store4 hR3.2.2.2.2.1 nle, cell_store4 hR3.2.2.2.2.2.1 nle, cell_store4 hR3.2.2.2.2.2.2.1 nle, cell_store4 hR3.2.2.2.2.2.2.2.1 nle, cell_store4 hR3.2.2.2.2.2.2.2.2 nle⟩) (fun hR4 => ?_)
       clear hK K hR3
       (try simp only [Act.put, sa, List.set])
       clear uc0 uf0 uc1 uf1 uc2 uf2 uc3 uf3 ql; replace xl := xl.put_other4 Ae (.bool bh) (.slice ah kh ch) (.bool dh) (.slice eh lh mh) (by omega); replace xs := xs.put_other4 Ae (.bool bh) (.slice ah kh ch) (.bool dh) (.slice eh lh mh) (by omega); replace hM := below4 hM Ae le (.bool bh) (.slice ah kh ch) (.bool dh) (.slice eh lh mh); replace xe := xe.put4 (.bool bh) (.slice ah kh ch) (.bool dh) (.slice eh lh mh)
       have ql := xl.lt
       refine wpAnyH_done (by kernel_rfl) ?_ _
       refine NoPanic.normal ?_
       clear hR4
       go_wp2_with fail
       go_meet
       exact ⟨_, _, rfl, rfl, xs, xe, ls, le, hM⟩
      ·
       have nle : wd.heap.size ≠ L := (by have := xl.lt; omega)
       have hb := (Below.refl wd.heap.size wd).alloc (Nat.le_refl _) (.cells #[.bool false, .slice none 0 0, .bool false, .slice none 0 0] 39)
       go_simp
       refine hK.out _ _ (⟨keep4 hb ql hR0.1, (hb.cell (p := ⟨L, 4, none⟩) ql).trans hR0.2.1, (hb.cell (p := ⟨L, 5, none⟩) ql).trans hR0.2.2.1, (hb.cell (p := ⟨L, 6, none⟩) ql).trans hR0.2.2.2.1, (hb.cell (p := ⟨L, 7, none⟩) ql).trans hR0.2.2.2.2.1, (hb.cell (p := ⟨L, 8, none⟩) ql).trans hR0.2.2.2.2.2.1, (hb.cell (p := ⟨L, 9, none⟩) ql).trans hR0.2.2.2.2.2.2.1, (hb.cell (p := ⟨L, 10, none⟩) ql).trans hR0.2.2.2.2.2.2.2.1, (hb.cell (p := ⟨L, 11, none⟩) ql).trans hR0.2.2.2.2.2.2.2.2⟩) (fun hR1 => ?_)
       clear hK K hR0
       (try simp only [Act.put, sa, List.set])
       have xe := Bk.new wd #[.bool false, .slice none 0 0, .bool false, .slice none 0 0] 39
       have le := hM.size
       replace xl := xl.on hb; replace hM := hM.trans (hb.mono hM.size); clear hb ql
       generalize hA : wd.heap.size = Ae at *
       generalize wd.alloc (.cells #[.bool false, .slice none 0 0, .bool false, .slice none 0 0] 39) = wc3 at *
       clear hA
       have ql := xl.lt
       have nls : wc3.heap.size ≠ L := (by have := xl.lt; omega)
       have mes : Ae ≠ wc3.heap.size := (by have := xe.lt; omega)
       have hb := (Below.refl wc3.heap.size wc3).alloc (Nat.le_refl _) (.cells #[.bool false, .slice none 0 0, .bool false, .slice none 0 0] 39)
       refine rz 7 fun K hK => ?_
       go_simp
       refine hK.out _ _ (⟨keep4 hb ql hR1.1, (hb.cell (p := ⟨L, 4, none⟩) ql).trans hR1.2.1, (hb.cell (p := ⟨L, 5, none⟩) ql).trans hR1.2.2.1, (hb.cell (p := ⟨L, 6, none⟩) ql).trans hR1.2.2.2.1, (hb.cell (p := ⟨L, 7, none⟩) ql).trans hR1.2.2.2.2.1, (hb.cell (p := ⟨L, 8, none⟩) ql).trans hR1.2.2.2.2.2.1, (hb.cell (p := ⟨L, 9, none⟩) ql).trans hR1.2.2.2.2.2.2.1, (hb.cell (p := ⟨L, 10, none⟩) ql).trans hR1.2.2.2.2.2.2.2.1, (hb.cell (p := ⟨L, 11, none⟩) ql).trans hR1.2.2.2.2.2.2.2.2⟩) (fun hR2 => ?_)
       clear hK K hR1
       (try simp only [Act.put, sa, List.set])
       have xs := Bk.new wc3 #[.bool false, .slice none 0 0, .bool false, .slice none 0 0] 39
       have ls := hM.size
       replace xl := xl.on hb; replace xe := xe.on hb; replace hM := hM.trans (hb.mono hM.size); clear hb ql
       generalize hA : wc3.heap.size = As at *
       generalize wc3.alloc (.cells #[.bool false, .slice none 0 0, .bool false, .slice none 0 0] 39) = wc4 at *
       clear hA
       have ql := xl.lt
       have uc0 := xs.cell 0
       have uf0 := xs.free 0
       have uc1 := xs.cell 1
       have uf1 := xs.free 1
       have uc2 := xs.cell 2
       have uf2 := xs.free 2
       have uc3 := xs.cell 3
       have uf3 := xs.free 3
       simp only [List.getElem?_toArray, List.getElem?_cons_zero, List.getElem?_cons_succ] at uc0 uc1 uc2 uc3
       refine rz 9 fun K hK => ?_
       go_simp
       refine hK.out _ _ (⟨stay4 hR2.1 nls, cell_store4 hR2.2.1 nls, cell_store4 hR2.2.2.1 nls, cell_store4 hR2.2.2.2.1 nls, cell_store4 hR2.2.2.2.2.1 nls, cell_store4 hR2.2.2.2.2.2.1 nls, cell_store4 hR2.2.2.2.2.2.2.1 nls, cell_store4 hR2.2.2.2.2.2.2.2.1 nls, cell_store4 hR2.2.2.2.2.2.2.2.2 nls⟩) (fun hR3 => ?_)
       clear hK K hR2
       (try simp only [Act.put, sa, List.set])
       clear uc0 uf0 uc1 uf1 uc2 uf2 uc3 uf3 ql; replace xl := xl.put_other4 As (.bool bg) (.slice ag kg cg) (.bool dg) (.slice eg lg mg) (by omega); replace xe := xe.put_other4 As (.bool bg) (.slice ag kg cg) (.bool dg) (.slice eg lg mg) (by omega); replace hM := below4 hM As ls (.bool bg) (.slice ag kg cg) (.bool dg) (.slice eg lg mg); replace xs := xs.put4 (.bool bg) (.slice ag kg cg) (.bool dg) (.slice eg lg mg)
       have ql := xl.lt
       have uc0 := xe.cell 0
       have uf0 := xe.free 0
       have uc1 := xe.cell 1
       have uf1 := xe.free 1
       have uc2 := xe.cell 2
       have uf2 := xe.free 2
       have uc3 := xe.cell 3
       have uf3 := xe.free 3
       simp only [List.getElem?_toArray, List.getElem?_cons_zero, List.getElem?_cons_succ] at uc0 uc1 uc2 uc3
       refine rz 10 fun K hK => ?_
       go_simp
       refine hK.out _ _ (⟨stay4 hR3.1 nle, cell_store4 hR3.2.1 nle, cell_store4 hR3.2.2.1 nle, cell_store4 hR3.2.2.2.1 nle, cell_store4 hR3.2.2.2.2.1 nle, cell_store4 hR3.2.2.2.2.2.1 nle, cell_store4 hR3.2.2.2.2.2.2.1 nle, cell_store4 hR3.2.2.2.2.2.2.2.1 nle, cell_store4 hR3.2.2.2.2.2.2.2.2 nle⟩) (fun hR4 => ?_)
       clear hK K hR3
       (try simp only [Act.put, sa, List.set])
       clear uc0 uf0 uc1 uf1 uc2 uf2 uc3 uf3 ql; replace xl := xl.put_other4 Ae (.bool bh) (.slice ah kh ch) (.bool dh) (.slice eh lh mh) (by omega); replace xs := xs.put_other4 Ae (.bool bh) (.slice ah kh ch) (.bool dh) (.slice eh lh mh) (by omega); replace hM := below4 hM Ae le (.bool bh) (.slice ah kh ch) (.bool dh) (.slice eh lh mh); replace xe := xe.put4 (.bool bh) (.slice ah kh ch) (.bool dh) (.slice eh lh mh)
       have ql := xl.lt
       refine wpAnyH_done (by kernel_rfl) ?_ _
       refine NoPanic.normal ?_
       clear hR4
       go_wp2_with fail
       go_meet
       exact ⟨_, _, rfl, rfl, xs, xe, ls, le, hM⟩
     case rest =>
      obtain ⟨As, Ae, rfl, rfl, xs, xe, ls, le, hb⟩ := hcut
      obtain ⟨wq, hwc⟩ : ∃ W : World, W = wc := ⟨_, rfl⟩
      subst hwc
      replace xl := xl.on hb; replace g0 := g0.on hb; replace g1 := g1.on hb; replace g2 := g2.on hb; replace hB := hB.trans (hb.mono hB.size); clear hb ls le
      have ps := xs.all4
      have pe := xe.all4
      have lts := xs.lt
      have lte := xe.lt
      go_wp2_with fail
      clear lts lte ps pe
      refine (HAD1x.out.1 _ _ _ g0 g1).mono ?_
      rintro e w21 ⟨⟨v, c0, rfl, ya⟩, hb⟩
      obtain ⟨ba, aa, ka, ca, da, ea, la, ma, rfl⟩ := ya.opened
      replace xl := xl.on hb; replace xs := xs.on hb; replace xe := xe.on hb; replace g0 := g0.on hb; replace g1 := g1.on hb; replace g2 := g2.on hb
      have hz21 := hb.size
      try simp at hz21
      replace hB := hB.trans (hb.mono hB.size); clear hb
      have ps := xs.all4
      have pe := xe.all4
      have lts := xs.lt
      have lte := xe.lt
      go_wp2_with fail
      clear lts lte ps pe
      have hb := ((Below.refl w21.heap.size w21).alloc (Nat.le_refl _) (.cells #[.bool ba, .slice aa ka ca, .bool da, .slice ea la ma] 39))
      have xa : Bk _ w21.heap.size #[.bool ba, .slice aa ka ca, .bool da, .slice ea la ma] 39 := (Bk.new w21 #[.bool ba, .slice aa ka ca, .bool da, .slice ea la ma] 39)
      replace xl := xl.on hb; replace xs := xs.on hb; replace xe := xe.on hb; replace g0 := g0.on hb; replace g1 := g1.on hb; replace g2 := g2.on hb; replace ya := ya.on hb; replace hB := hB.trans (hb.mono hB.size); clear hb
      obtain ⟨wma, hwma⟩ : ∃ W, W = (w21.alloc (.cells #[.bool ba, .slice aa ka ca, .bool da, .slice ea la ma] 39)) := ⟨_, rfl⟩
      rw [← hwma] at hB xl xs xe xa g0 g1 g2 ya ⊢
      clear hwma
      have ps := xs.all4
      have pe := xe.all4
      have pa := xa.all4
      have lts := xs.lt
      have lte := xe.lt
      have lta := xa.lt
      go_wp2_with fail
      clear lts lte lta ps pe pa
      refine (HAD1x.out.2 _ _ _ g0 g1).mono ?_
      rintro e w22 ⟨⟨v, c1, rfl, yb⟩, hb⟩
      obtain ⟨bb, ab, kb, cb, db, eb, lb, mb, rfl⟩ := yb.opened
      replace xl := xl.on hb; replace xs := xs.on hb; replace xe := xe.on hb; replace xa := xa.on hb; replace g0 := g0.on hb; replace g1 := g1.on hb; replace g2 := g2.on hb; replace ya := ya.on hb
      have hz22 := hb.size
      try simp at hz22
      replace hB := hB.trans (hb.mono hB.size); clear hb
      have ps := xs.all4
      have pe := xe.all4
      have pa := xa.all4
      have lts := xs.lt
      have lte := xe.lt
      have lta := xa.lt
      go_wp2_with fail
      clear lts lte lta ps pe pa
      have hb := ((Below.refl w22.heap.size w22).alloc (Nat.le_refl _) (.cells #[.bool bb, .slice ab kb cb, .bool db, .slice eb lb mb] 39))
      have xb : Bk _ w22.heap.size #[.bool bb, .slice ab kb cb, .bool db, .slice eb lb mb] 39 := (Bk.new w22 #[.bool bb, .slice ab kb cb, .bool db, .slice eb lb mb] 39)
      replace xl := xl.on hb; replace xs := xs.on hb; replace xe := xe.on hb; replace xa := xa.on hb; replace g0 := g0.on hb; replace g1 := g1.on hb; replace g2 := g2.on hb; replace ya := ya.on hb; replace yb := yb.on hb; replace hB := hB.trans (hb.mono hB.size); clear hb
      obtain ⟨wmb, hwmb⟩ : ∃ W, W = (w22.alloc (.cells #[.bool bb, .slice ab kb cb, .bool db, .slice eb lb mb] 39)) := ⟨_, rfl⟩
      rw [← hwmb] at hB xl xs xe xa xb g0 g1 g2 ya yb ⊢
      clear hwmb
      have ps := xs.all4
      have pe := xe.all4
      have pa := xa.all4
      have pb := xb.all4
      have lts := xs.lt
      have lte := xe.lt
      have lta := xa.lt
      have ltb := xb.lt
      go_wp2_with fail
      clear lts lte lta ltb ps pe pa pb
      refine (HMU1x.out.1 _ _ _ g0 g1).mono ?_
      rintro e w23 ⟨⟨v, c2, rfl, yc⟩, hb⟩
      obtain ⟨bc, ac, kc, cc, dc, ec, lc, mc, rfl⟩ := yc.opened
      replace xl := xl.on hb; replace xs := xs.on hb; replace xe := xe.on hb; replace xa := xa.on hb; replace xb := xb.on hb; replace g0 := g0.on hb; replace g1 := g1.on hb; replace g2 := g2.on hb; replace ya := ya.on hb; replace yb := yb.on hb
      have hz23 := hb.size
      try simp at hz23
      replace hB := hB.trans (hb.mono hB.size); clear hb
      have ps := xs.all4
      have pe := xe.all4
      have pa := xa.all4
      have pb := xb.all4
      have lts := xs.lt
      have lte := xe.lt
      have lta := xa.lt
      have ltb := xb.lt
      go_wp2_with fail
      clear lts lte lta ltb ps pe pa pb
      have hb := ((Below.refl w23.heap.size w23).alloc (Nat.le_refl _) (.cells #[.bool bc, .slice ac kc cc, .bool dc, .slice ec lc mc] 39))
      have xc : Bk _ w23.heap.size #[.bool bc, .slice ac kc cc, .bool dc, .slice ec lc mc] 39 := (Bk.new w23 #[.bool bc, .slice ac kc cc, .bool dc, .slice ec lc mc] 39)
      replace xl := xl.on hb; replace xs := xs.on hb; replace xe := xe.on hb; replace xa := xa.on hb; replace xb := xb.on hb; replace g0 := g0.on hb; replace g1 := g1.on hb; replace g2 := g2.on hb; replace ya := ya.on hb; replace yb := yb.on hb; replace yc := yc.on hb; replace hB := hB.trans (hb.mono hB.size); clear hb
      obtain ⟨wmc, hwmc⟩ : ∃ W, W = (w23.alloc (.cells #[.bool bc, .slice ac kc cc, .bool dc, .slice ec lc mc] 39)) := ⟨_, rfl⟩
      rw [← hwmc] at hB xl xs xe xa xb xc g0 g1 g2 ya yb yc ⊢
      clear hwmc
      have ps := xs.all4
      have pe := xe.all4
      have pa := xa.all4
      have pb := xb.all4
      have pc := xc.all4
      have lts := xs.lt
      have lte := xe.lt
      have lta := xa.lt
      have ltb := xb.lt
      have ltc := xc.lt
      go_wp2_with fail
      clear lts lte lta ltb ltc ps pe pa pb pc
      refine (HMU1x.out.2 _ _ _ g0 g1).mono ?_
      rintro e w24 ⟨⟨v, c3, rfl, yd⟩, hb⟩
      obtain ⟨bd, ad, kd, cd, dd, ed, ld, md, rfl⟩ := yd.opened
      replace xl := xl.on hb; replace xs := xs.on hb; replace xe := xe.on hb; replace xa := xa.on hb; replace xb := xb.on hb; replace xc := xc.on hb; replace g0 := g0.on hb; replace g1 := g1.on hb; replace g2 := g2.on hb; replace ya := ya.on hb; replace yb := yb.on hb; replace yc := yc.on hb
      have hz24 := hb.size
      try simp at hz24
      replace hB := hB.trans (hb.mono hB.size); clear hb
      have ps := xs.all4
      have pe := xe.all4
      have pa := xa.all4
      have pb := xb.all4
      have pc := xc.all4
      have lts := xs.lt
      have lte := xe.lt
      have lta := xa.lt
      have ltb := xb.lt
      have ltc := xc.lt
      go_wp2_with fail
      clear lts lte lta ltb ltc ps pe pa pb pc
      have hb := ((Below.refl w24.heap.size w24).alloc (Nat.le_refl _) (.cells #[.bool bd, .slice ad kd cd, .bool dd, .slice ed ld md] 39))
      have xd : Bk _ w24.heap.size #[.bool bd, .slice ad kd cd, .bool dd, .slice ed ld md] 39 := (Bk.new w24 #[.bool bd, .slice ad kd cd, .bool dd, .slice ed ld md] 39)
      replace xl := xl.on hb; replace xs := xs.on hb; replace xe := xe.on hb; replace xa := xa.on hb; replace xb := xb.on hb; replace xc := xc.on hb; replace g0 := g0.on hb; replace g1 := g1.on hb; replace g2 := g2.on hb; replace ya := ya.on hb; replace yb := yb.on hb; replace yc := yc.on hb; replace yd := yd.on hb; replace hB := hB.trans (hb.mono hB.size); clear hb
      obtain ⟨wmd, hwmd⟩ : ∃ W, W = (w24.alloc (.cells #[.bool bd, .slice ad kd cd, .bool dd, .slice ed ld md] 39)) := ⟨_, rfl⟩
      rw [← hwmd] at hB xl xs xe xa xb xc xd g0 g1 g2 ya yb yc yd ⊢
      clear hwmd
      have ps := xs.all4
      have pe := xe.all4
      have pa := xa.all4
      have pb := xb.all4
      have pc := xc.all4
      have pd := xd.all4
      have lts := xs.lt
      have lte := xe.lt
      have lta := xa.lt
      have ltb := xb.lt
      have ltc := xc.lt
      have ltd := xd.lt
      go_wp2_with fail
      clear lts lte lta ltb ltc ltd ps pe pa pb pc pd
      refine (HS.out _ _ _ _ _ _ _ ya yb).mono ?_
      rintro e w25 ⟨rfl, hb⟩
      replace xl := xl.on hb; replace xs := xs.on hb; replace xe := xe.on hb; replace xa := xa.on hb; replace xb := xb.on hb; replace xc := xc.on hb; replace xd := xd.on hb; replace g0 := g0.on hb; replace g1 := g1.on hb; replace g2 := g2.on hb; replace ya := ya.on hb; replace yb := yb.on hb; replace yc := yc.on hb; replace yd := yd.on hb
      have hz25 := hb.size
      try simp at hz25
      replace hB := hB.trans (hb.mono hB.size); clear hb
      have ps := xs.all4
      have pe := xe.all4
      have pa := xa.all4
      have pb := xb.all4
      have pc := xc.all4
      have pd := xd.all4
      have lts := xs.lt
      have lte := xe.lt
      have lta := xa.lt
      have ltb := xb.lt
      have ltc := xc.lt
      have ltd := xd.lt
      go_wp2_with fail
      clear lts lte lta ltb ltc ltd ps pe pa pb pc pd
      refine (HS.out _ _ _ _ _ _ _ yc yd).mono ?_
      rintro e w26 ⟨rfl, hb⟩
      replace xl := xl.on hb; replace xs := xs.on hb; replace xe := xe.on hb; replace xa := xa.on hb; replace xb := xb.on hb; replace xc := xc.on hb; replace xd := xd.on hb; replace g0 := g0.on hb; replace g1 := g1.on hb; replace g2 := g2.on hb; replace ya := ya.on hb; replace yb := yb.on hb; replace yc := yc.on hb; replace yd := yd.on hb
      have hz26 := hb.size
      try simp at hz26
      replace hB := hB.trans (hb.mono hB.size); clear hb ya yb yc yd xa xb xc xd xs xe
      go_wp2_with fail
      exact ⟨⟨⟨xl, g0, g1, g2, hB⟩, .inr (.inl rfl)⟩, by simp [intOf]⟩
    ·
     have pl0 := xl.cell 0
     have fl0 := xl.free 0
     have pl1 := xl.cell 1
     have fl1 := xl.free 1
     have pl2 := xl.cell 2
     have fl2 := xl.free 2
     have pl3 := xl.cell 3
     have fl3 := xl.free 3
     have pl4 := xl.cell 4
     have fl4 := xl.free 4
     have pl5 := xl.cell 5
     have fl5 := xl.free 5
     have pl6 := xl.cell 6
     have fl6 := xl.free 6
     have pl7 := xl.cell 7
     have fl7 := xl.free 7
     have pl8 := xl.cell 8
     have fl8 := xl.free 8
     have pl9 := xl.cell 9
     have fl9 := xl.free 9
     have pl10 := xl.cell 10
     have fl10 := xl.free 10
     have pl11 := xl.cell 11
     have fl11 := xl.free 11
     simp only [List.getElem?_toArray, List.getElem?_cons_zero, List.getElem?_cons_succ] at pl0 pl1 pl2 pl3 pl4 pl5 pl6 pl7 pl8 pl9 pl10 pl11
     have ltl := xl.lt
     go_wp2_with fail
     clear ltl pl0 fl0 pl1 fl1 pl2 fl2 pl3 fl3 pl4 fl4 pl5 fl5 pl6 fl6 pl7 fl7 pl8 fl8 pl9 fl9 pl10 fl10 pl11 fl11
     go_cut [20, 21] (fun s20 s21 wx => At2F wr wx s20 s21 #[.bool bg, .slice ag kg cg, .bool dg, .slice eg lg mg] #[.bool bv, .slice av kv cv, .bool dv, .slice ev lv mv])
     case first =>
      have hM : Below wr.heap.size wr wr.drew := (Below.refl wr.heap.size wr).drew
      have gl0 := xl.cell 0
      have gl1 := xl.cell 1
      have gl2 := xl.cell 2
      have gl3 := xl.cell 3
      have gl4 := xl.cell 4
      have gl5 := xl.cell 5
      have gl6 := xl.cell 6
      have gl7 := xl.cell 7
      have gl8 := xl.cell 8
      have gl9 := xl.cell 9
      have gl10 := xl.cell 10
      have gl11 := xl.cell 11
      simp only [List.getElem?_toArray, List.getElem?_cons_zero, List.getElem?_cons_succ] at gl0 gl1 gl2 gl3 gl4 gl5 gl6 gl7 gl8 gl9 gl10 gl11
      replace xl := xl.on hM
      refine wp_region_noPanic ?_
      refine wp_region_held_drew (S := (fun w' => (w'.cell? ⟨L, 0, none⟩ = some (.bool bg) ∧ w'.cell? ⟨L, 1, none⟩ = some (.slice ag kg cg) ∧ w'.cell? ⟨L, 2, none⟩ = some (.bool dg) ∧ w'.cell? ⟨L, 3, none⟩ = some (.slice eg lg mg)) ∧ w'.cell? ⟨L, 4, none⟩ = some (.bool bh) ∧ w'.cell? ⟨L, 5, none⟩ = some (.slice ah kh ch) ∧ w'.cell? ⟨L, 6, none⟩ = some (.bool dh) ∧ w'.cell? ⟨L, 7, none⟩ = some (.slice eh lh mh) ∧ w'.cell? ⟨L, 8, none⟩ = some (.bool bv) ∧ w'.cell? ⟨L, 9, none⟩ = some (.slice av kv cv) ∧ w'.cell? ⟨L, 10, none⟩ = some (.bool dv) ∧ w'.cell? ⟨L, 11, none⟩ = some (.slice ev lv mv))) (by kernel_rfl) ⟨⟨gl0, gl1, gl2, gl3⟩, gl4, gl5, gl6, gl7, gl8, gl9, gl10, gl11⟩ (fun hR0 => ?_)
      change wpAnyH _ _ _ _ _ 11 #[false, false, false, false, false, false, false, false, false, false, false] _ _
      clear gl0 gl1 gl2 gl3 gl4 gl5 gl6 gl7 gl8 gl9 gl10 gl11
      generalize wr.drew = wd at *
      have ql := xl.lt
      refine tz 0 ?_
      (try simp only [Act.put, sa, List.set])
      refine tz 1 ?_
      (try simp only [Act.put, sa, List.set])
      refine tz 2 ?_
      (try simp only [Act.put, sa, List.set])
      refine tz 3 ?_
      (try simp only [Act.put, sa, List.set])
      refine tz 4 ?_
      (try simp only [Act.put, sa, List.set])
      refine tz 5 ?_
      (try simp only [Act.put, sa, List.set])
      refine tz 6 ?_
      (try simp only [Act.put, sa, List.set])
      refine rd2 (i := 7) (j := 8) (by kernel_rfl) rfl rfl (fun K hK => ?_) (fun K hK => ?_)
      ·
       have nls : wd.heap.size ≠ L := (by have := xl.lt; omega)
       have hb := (Below.refl wd.heap.size wd).alloc (Nat.le_refl _) (.cells #[.bool false, .slice none 0 0, .bool false, .slice none 0 0] 39)
       go_simp
       refine hK.out _ _ (⟨keep4 hb ql hR0.1, (hb.cell (p := ⟨L, 4, none⟩) ql).trans hR0.2.1, (hb.cell (p := ⟨L, 5, none⟩) ql).trans hR0.2.2.1, (hb.cell (p := ⟨L, 6, none⟩) ql).trans hR0.2.2.2.1, (hb.cell (p := ⟨L, 7, none⟩) ql).trans hR0.2.2.2.2.1, (hb.cell (p := ⟨L, 8, none⟩) ql).trans hR0.2.2.2.2.2.1, (hb.cell (p := ⟨L, 9, none⟩) ql).trans hR0.2.2.2.2.2.2.1, (hb.cell (p := ⟨L, 10, none⟩) ql).trans hR0.2.2.2.2.2.2.2.1, (hb.cell (p := ⟨L, 11, none⟩) ql).trans hR0.2.2.2.2.2.2.2.2⟩) (fun hR1 => ?_)
       clear hK K hR0
       (try simp only [Act.put, sa, List.set])
       have xs := Bk.new wd #[.bool false, .slice none 0 0, .bool false, .slice none 0 0] 39
       have ls := hM.size
       replace xl := xl.on hb; replace hM := hM.trans (hb.mono hM.size); clear hb ql
       generalize hA : wd.heap.size = As at *
       generalize wd.alloc (.cells #[.bool false, .slice none 0 0, .bool false, .slice none 0 0] 39) = wc1 at *
       clear hA
       have ql := xl.lt
       have nle : wc1.heap.size ≠ L := (by have := xl.lt; omega)
       have mse : As ≠ wc1.heap.size := (by have := xs.lt; omega)
       have hb := (Below.refl wc1.heap.size wc1).alloc (Nat.le_refl _) (.cells #[.bool false, .slice none 0 0, .bool false, .slice none 0 0] 39)
       refine rz 8 fun K hK => ?_
       go_simp
       refine hK.out _ _ (⟨keep4 hb ql hR1.1, (hb.cell (p := ⟨L, 4, none⟩) ql).trans hR1.2.1, (hb.cell (p := ⟨L, 5, none⟩) ql).trans hR1.2.2.1, (hb.cell (p := ⟨L, 6, none⟩) ql).trans hR1.2.2.2.1, (hb.cell (p := ⟨L, 7, none⟩) ql).trans hR1.2.2.2.2.1, (hb.cell (p := ⟨L, 8, none⟩) ql).trans hR1.2.2.2.2.2.1, (hb.cell (p := ⟨L, 9, none⟩) ql).trans hR1.2.2.2.2.2.2.1, (hb.cell (p := ⟨L, 10, none⟩) ql).trans hR1.2.2.2.2.2.2.2.1, (hb.cell (p := ⟨L, 11, none⟩) ql).trans hR1.2.2.2.2.2.2.2.2⟩) (fun hR2 => ?_)
       clear hK K hR1
       (try simp only [Act.put, sa, List.set])
       have xe := Bk.new wc1 #[.bool false, .slice none 0 0, .bool false, .slice none 0 0] 39
       have le := hM.size
       replace xl := xl.on hb; replace xs := xs.on hb; replace hM := hM.trans (hb.mono hM.size); clear hb ql
       generalize hA : wc1.heap.size = Ae at *
       generalize wc1.alloc (.cells #[.bool false, .slice none 0 0, .bool false, .slice none 0 0] 39) = wc2 at *
       clear hA
       have ql := xl.lt
       have uc0 := xs.cell 0
       have uf0 := xs.free 0
       have uc1 := xs.cell 1
       have uf1 := xs.free 1
       have uc2 := xs.cell 2
       have uf2 := xs.free 2
       have uc3 := xs.cell 3
       have uf3 := xs.free 3
       simp only [List.getElem?_toArray, List.getElem?_cons_zero, List.getElem?_cons_succ] at uc0 uc1 uc2 uc3
       refine rz 9 fun K hK => ?_
       go_simp
       refine hK.out _ _ (⟨stay4 hR2.1 nls, cell_store4 hR2.2.1 nls, cell_store4 hR2.2.2.1 nls, cell_store4 hR2.2.2.2.1 nls, cell_store4 hR2.2.2.2.2.1 nls, cell_store4 hR2.2.2.2.2.2.1 nls, cell_store4 hR2.2.2.2.2.2.2.1 nls, cell_store4 hR2.2.2.2.2.2.2.2.1 nls, cell_store4 hR2.2.2.2.2.2.2.2.2 nls⟩) (fun hR3 => ?_)
       clear hK K hR2
       (try simp only [Act.put, sa, List.set])
       clear uc0 uf0 uc1 uf1 uc2 uf2 uc3 uf3 ql; replace xl := xl.put_other4 As (.bool bg) (.slice ag kg cg) (.bool dg) (.slice eg lg mg) (by omega); replace xe := xe.put_other4 As (.bool bg) (.slice ag kg cg) (.bool dg) (.slice eg lg mg) (by omega); replace hM := below4 hM As ls (.bool bg) (.slice ag kg cg) (.bool dg) (.slice eg lg mg); replace xs := xs.put4 (.bool bg) (.slice ag kg cg) (.bool dg) (.slice eg lg mg)
       have ql := xl.lt
       have uc0 := xe.cell 0
       have uf0 := xe.free 0
       have uc1 := xe.cell 1
       have uf1 := xe.free 1
       have uc2 := xe.cell 2
       have uf2 := xe.free 2
       have uc3 := xe.cell 3
       have uf3 := xe.free 3
       simp only [List.getElem?_toArray, List.getElem?_cons_zero, List.getElem?_cons_succ] at uc0 uc1 uc2 uc3
       refine rz 10 fun K hK => ?_
       go_simp
       refine hK.out _ _ (⟨stay4 hR3.1 nle, cell_store4 hR3.2.1 nle, cell_store4 hR3.2.2.1 nle, cell_store4 hR3.2.2.2.1 nle, cell_store4 hR3.2.2.2.2.1 nle, cell_store4 hR3.2.2.2.2.2.1 nle, cell_store4 hR3.2.2.2.2.2.2.1 nle, cell_store4 hR3.2.2.2.2.2.2.2.1 nle, cell_store4 hR3.2.2.2.2.2.2.2.2 nle⟩) (fun hR4 => ?_)
       clear hK K hR3
       (try simp only [Act.put, sa, List.set])
       clear uc0 uf0 uc1 uf1 uc2 uf2 uc3 uf3 ql; replace xl := xl.put_other4 Ae (.bool bv) (.slice av kv cv) (.bool dv) (.slice ev lv mv) (by omega); replace xs := xs.put_other4 Ae (.bool bv) (.slice av kv cv) (.bool dv) (.slice ev lv mv) (by omega); replace hM := below4 hM Ae le (.bool bv) (.slice av kv cv) (.bool dv) (.slice ev lv mv); replace xe := xe.put4 (.bool bv) (.slice av kv cv) (.bool dv) (.slice ev lv mv)
       have ql := xl.lt
       refine wpAnyH_done (by kernel_rfl) ?_ _
       refine NoPanic.normal ?_
       clear hR4
       go_wp2_with fail
       go_meet
       exact ⟨_, _, rfl, rfl, xs, xe, ls, le, hM⟩
      ·
       have nle : wd.heap.size ≠ L := (by have := xl.lt; omega)
       have hb := (Below.refl wd.heap.size wd).alloc (Nat.le_refl _) (.cells #[.bool false, .slice none 0 0, .bool false, .slice none 0 0] 39)
       go_simp
       refine hK.out _ _ (⟨keep4 hb ql hR0.1, (hb.cell (p := ⟨L, 4, none⟩) ql).trans hR0.2.1, (hb.cell (p := ⟨L, 5, none⟩) ql).trans hR0.2.2.1, (hb.cell (p := ⟨L, 6, none⟩) ql).trans hR0.2.2.2.1, (hb.cell (p := ⟨L, 7, none⟩) ql).trans hR0.2.2.2.2.1, (hb.cell (p := ⟨L, 8, none⟩) ql).trans hR0.2.2.2.2.2.1, (hb.cell (p := ⟨L, 9, none⟩) ql).trans hR0.2.2.2.2.2.2.1, (hb.cell (p := ⟨L, 10, none⟩) ql).trans hR0.2.2.2.2.2.2.2.1, (hb.cell (p := ⟨L, 11, none⟩) ql).trans hR0.2.2.2.2.2.2.2.2⟩) (fun hR1 => ?_)
       clear hK K hR0
       (try simp only [Act.put, sa, List.set])
       have xe := Bk.new wd #[.bool false, .slice none 0 0, .bool false, .slice none 0 0] 39
       have le := hM.size
       replace xl := xl.on hb; replace hM := hM.trans (hb.mono hM.size); clear hb ql
       generalize hA : wd.heap.size = Ae at *
       generalize wd.alloc (.cells #[.bool false, .slice none 0 0, .bool false, .slice none 0 0] 39) = wc3 at *
       clear hA
       have ql := xl.lt
       have nls : wc3.heap.size ≠ L := (by have := xl.lt; omega)
       have mes : Ae ≠ wc3.heap.size := (by have := xe.lt; omega)
       have hb := (Below.refl wc3.heap.size wc3).alloc (Nat.le_refl _) (.cells #[.bool false, .slice none 0 0, .bool false, .slice none 0 0] 39)
       refine rz 7 fun K hK => ?_
       go_simp
       refine hK.out _ _ (⟨keep4 hb ql hR1.1, (hb.cell (p := ⟨L, 4, none⟩) ql).trans hR1.2.1, (hb.cell (p := ⟨L, 5, none⟩) ql).trans hR1.2.2.1, (hb.cell (p := ⟨L, 6, none⟩) ql).trans hR1.2.2.2.1, (hb.cell (p := ⟨L, 7, none⟩) ql).trans hR1.2.2.2.2.1, (hb.cell (p := ⟨L, 8, none⟩) ql).trans hR1.2.2.2.2.2.1, (hb.cell (p := ⟨L, 9, none⟩) ql).trans hR1.2.2.2.2.2.2.1, (hb.cell (p := ⟨L, 10, none⟩) ql).trans hR1.2.2.2.2.2.2.2.1, (hb.cell (p := ⟨L, 11, none⟩) ql).trans hR1.2.2.2.2.2.2.2.2⟩) (fun hR2 => ?_)
       clear hK K hR1
       (try simp only [Act.put, sa, List.set])
       have xs := Bk.new wc3 #[.bool false, .slice none 0 0, .bool false, .slice none 0 0] 39
       have ls := hM.size
       replace xl := xl.on hb; replace xe := xe.on hb; replace hM := hM.trans (hb.mono hM.size); clear hb ql
       generalize hA : wc3.heap.size = As at *
       generalize wc3.alloc (.cells #[.bool false, .slice none 0 0, .bool false, .slice none 0 0] 39) = wc4 at *
       clear hA
       have ql := xl.lt
       have uc0 := xs.cell 0
       have uf0 := xs.free 0
       have uc1 := xs.cell 1
       have uf1 := xs.free 1
       have uc2 := xs.cell 2
       have uf2 := xs.free 2
       have uc3 := xs.cell 3
       have uf3 := xs.free 3
       simp only [List.getElem?_toArray, List.getElem?_cons_zero, List.getElem?_cons_succ] at uc0 uc1 uc2 uc3
       refine rz 9 fun K hK => ?_
       go_simp
       refine hK.out _ _ (⟨stay4 hR2.1 nls, cell_store4 hR2.2.1 nls, cell_store4 hR2.2.2.1 nls, cell_store4 hR2.2.2.2.1 nls, cell_store4 hR2.2.2.2.2.1 nls, cell_store4 hR2.2.2.2.2.2.1 nls, cell_store4 hR2.2.2.2.2.2.2.1 nls, cell_store4 hR2.2.2.2.2.2.2.2.1 nls, cell_store4 hR2.2.2.2.2.2.2.2.2 nls⟩) (fun hR3 => ?_)
       clear hK K hR2
       (try simp only [Act.put, sa, List.set])
       clear uc0 uf0 uc1 uf1 uc2 uf2 uc3 uf3 ql; replace xl := xl.put_other4 As (.bool bg) (.slice ag kg cg) (.bool dg) (.slice eg lg mg) (by omega); replace xe := xe.put_other4 As (.bool bg) (.slice ag kg cg) (.bool dg) (.slice eg lg mg) (by omega); replace hM := below4 hM As ls (.bool bg) (.slice ag kg cg) (.bool dg) (.slice eg lg mg); replace xs := xs.put4 (.bool bg) (.slice ag kg cg) (.bool dg) (.slice eg lg mg)
       have ql := xl.lt
       have uc0 := xe.cell 0
       have uf0 := xe.free 0
       have uc1 := xe.cell 1
       have uf1 := xe.free 1
       have uc2 := xe.cell 2
       have uf2 := xe.free 2
       have uc3 := xe.cell 3
       have uf3 := xe.free 3
       simp only [List.getElem?_toArray, List.getElem?_cons_zero, List.getElem?_cons_succ] at uc0 uc1 uc2 uc3
       refine rz 10 fun K hK => ?_
       go_simp
       refine hK.out _ _ (⟨stay4 hR3.1 nle, cell_store4 hR3.2.1 nle, cell_store4 hR3.2.2.1 nle, cell_store4 hR3.2.2.2.1 nle, cell_store4 hR3.2.2.2.2.1 nle, cell_store4 hR3.2.2.2.2.2.1 nle, cell_store4 hR3.2.2.2.2.2.2.1 nle, cell_store4 hR3.2.2.2.2.2.2.2.1 nle, cell_store4 hR3.2.2.2.2.2.2.2.2 nle⟩) (fun hR4 => ?_)
       clear hK K hR3
       (try simp only [Act.put, sa, List.set])
       clear uc0 uf0 uc1 uf1 uc2 uf2 uc3 uf3 ql; replace xl := xl.put_other4 Ae (.bool bv) (.slice av kv cv) (.bool dv) (.slice ev lv mv) (by omega); replace xs := xs.put_other4 Ae (.bool bv) (.slice av kv cv) (.bool dv) (.slice ev lv mv) (by omega); replace hM := below4 hM Ae le (.bool bv) (.slice av kv cv) (.bool dv) (.slice ev lv mv); replace xe := xe.put4 (.bool bv) (.slice av kv cv) (.bool dv) (.slice ev lv mv)
       have ql := xl.lt
       refine wpAnyH_done (by kernel_rfl) ?_ _
       refine NoPanic.normal ?_
       clear hR4
       go_wp2_with fail
       go_meet
       exact ⟨_, _, rfl, rfl, xs, xe, ls, le, hM⟩
     case rest =>
      obtain ⟨As, Ae, rfl, rfl, xs, xe, ls, le, hb⟩ := hcut
      obtain ⟨wq, hwc⟩ : ∃ W : World, W = wc := ⟨_, rfl⟩
      subst hwc
      replace xl := xl.on hb; replace g0 := g0.on hb; replace g1 := g1.on hb; replace g2 := g2.on hb; replace hB := hB.trans (hb.mono hB.size); clear hb ls le
      have ps := xs.all4
      have pe := xe.all4
      have lts := xs.lt
      have lte := xe.lt
      go_wp2_with fail
      clear lts lte ps pe
      refine (HAD2x.out.1 _ _ _ g0 g2).mono ?_
      rintro e w21 ⟨⟨v, c0, rfl, ya⟩, hb⟩
      obtain ⟨ba, aa, ka, ca, da, ea, la, ma, rfl⟩ := ya.opened
      replace xl := xl.on hb; replace xs := xs.on hb; replace xe := xe.on hb; replace g0 := g0.on hb; replace g1 := g1.on hb; replace g2 := g2.on hb
      have hz21 := hb.size
      try simp at hz21
      replace hB := hB.trans (hb.mono hB.size); clear hb
      have ps := xs.all4
      have pe := xe.all4
      have lts := xs.lt
      have lte := xe.lt
      go_wp2_with fail
      clear lts lte ps pe
      have hb := ((Below.refl w21.heap.size w21).alloc (Nat.le_refl _) (.cells #[.bool ba, .slice aa ka ca, .bool da, .slice ea la ma] 39))
      have xa : Bk _ w21.heap.size #[.bool ba, .slice aa ka ca, .bool da, .slice ea la ma] 39 := (Bk.new w21 #[.bool ba, .slice aa ka ca, .bool da, .slice ea la ma] 39)
      replace xl := xl.on hb; replace xs := xs.on hb; replace xe := xe.on hb; replace g0 := g0.on hb; replace g1 := g1.on hb; replace g2 := g2.on hb; replace ya := ya.on hb; replace hB := hB.trans (hb.mono hB.size); clear hb
      obtain ⟨wma, hwma⟩ : ∃ W, W = (w21.alloc (.cells #[.bool ba, .slice aa ka ca, .bool da, .slice ea la ma] 39)) := ⟨_, rfl⟩
      rw [← hwma] at hB xl xs xe xa g0 g1 g2 ya ⊢
      clear hwma
      have ps := xs.all4
      have pe := xe.all4
      have pa := xa.all4
      have lts := xs.lt
      have lte := xe.lt
      have lta := xa.lt
      go_wp2_with fail
      clear lts lte lta ps pe pa
      refine (HAD2x.out.2 _ _ _ g0 g2).mono ?_
      rintro e w22 ⟨⟨v, c1, rfl, yb⟩, hb⟩
      obtain ⟨bb, ab, kb, cb, db, eb, lb, mb, rfl⟩ := yb.opened
      replace xl := xl.on hb; replace xs := xs.on hb; replace xe := xe.on hb; replace xa := xa.on hb; replace g0 := g0.on hb; replace g1 := g1.on hb; replace g2 := g2.on hb; replace ya := ya.on hb
      have hz22 := hb.size
      try simp at hz22
      replace hB := hB.trans (hb.mono hB.size); clear hb
      have ps := xs.all4
      have pe := xe.all4
      have pa := xa.all4
      have lts := xs.lt
      have lte := xe.lt
      have lta := xa.lt
      go_wp2_with fail
      clear lts lte lta ps pe pa
      have hb := ((Below.refl w22.heap.size w22).alloc (Nat.le_refl _) (.cells #[.bool bb, .slice ab kb cb, .bool db, .slice eb lb mb] 39))
      have xb : Bk _ w22.heap.size #[.bool bb, .slice ab kb cb, .bool db, .slice eb lb mb] 39 := (Bk.new w22 #[.bool bb, .slice ab kb cb, .bool db, .slice eb lb mb] 39)
      replace xl := xl.on hb; replace xs := xs.on hb; replace xe := xe.on hb; replace xa := xa.on hb; replace g0 := g0.on hb; replace g1 := g1.on hb; replace g2 := g2.on hb; replace ya := ya.on hb; replace yb := yb.on hb; replace hB := hB.trans (hb.mono hB.size); clear hb
      obtain ⟨wmb, hwmb⟩ : ∃ W, W = (w22.alloc (.cells #[.bool bb, .slice ab kb cb, .bool db, .slice eb lb mb] 39)) := ⟨_, rfl⟩
      rw [← hwmb] at hB xl xs xe xa xb g0 g1 g2 ya yb ⊢
      clear hwmb
      have ps := xs.all4
      have pe := xe.all4
      have pa := xa.all4
      have pb := xb.all4
      have lts := xs.lt
      have lte := xe.lt
      have lta := xa.lt
      have ltb := xb.lt
      go_wp2_with fail
      clear lts lte lta ltb ps pe pa pb
      refine (HMU2x.out.1 _ _ _ g0 g2).mono ?_
      rintro e w23 ⟨⟨v, c2, rfl, yc⟩, hb⟩
      obtain ⟨bc, ac, kc, cc, dc, ec, lc, mc, rfl⟩ := yc.opened
      replace xl := xl.on hb; replace xs := xs.on hb; replace xe := xe.on hb; replace xa := xa.on hb; replace xb := xb.on hb; replace g0 := g0.on hb; replace g1 := g1.on hb; replace g2 := g2.on hb; replace ya := ya.on hb; replace yb := yb.on hb
      have hz23 := hb.size
      try simp at hz23
      replace hB := hB.trans (hb.mono hB.size); clear hb
      have ps := xs.all4
      have pe := xe.all4
      have pa := xa.all4
      have pb := xb.all4
      have lts := xs.lt
      have lte := xe.lt
      have lta := xa.lt
      have ltb := xb.lt
      go_wp2_with fail
      clear lts lte lta ltb ps pe pa pb
      have hb := ((Below.refl w23.heap.size w23).alloc (Nat.le_refl _) (.cells #[.bool bc, .slice ac kc cc, .bool dc, .slice ec lc mc] 39))
      have xc : Bk _ w23.heap.size #[.bool bc, .slice ac kc cc, .bool dc, .slice ec lc mc] 39 := (Bk.new w23 #[.bool bc, .slice ac kc cc, .bool dc, .slice ec lc mc] 39)
      replace xl := xl.on hb; replace xs := xs.on hb; replace xe := xe.on hb; replace xa := xa.on hb; replace xb := xb.on hb; replace g0 := g0.on hb; replace g1 := g1.on hb; replace g2 := g2.on hb; replace ya := ya.on hb; replace yb := yb.on hb; replace yc := yc.on hb; replace hB := hB.trans (hb.mono hB.size); clear hb
      obtain ⟨wmc, hwmc⟩ : ∃ W, W = (w23.alloc (.cells #[.bool bc, .slice ac kc cc, .bool dc, .slice ec lc mc] 39)) := ⟨_, rfl⟩
      rw [← hwmc] at hB xl xs xe xa xb xc g0 g1 g2 ya yb yc ⊢
      clear hwmc
      have ps := xs.all4
      have pe := xe.all4
      have pa := xa.all4
      have pb := xb.all4
      have pc := xc.all4
      have lts := xs.lt
      have lte := xe.lt
      have lta := xa.lt
      have ltb := xb.lt
      have ltc := xc.lt
      go_wp2_with fail
      clear lts lte lta ltb ltc ps pe pa pb pc
      refine (HMU2x.out.2 _ _ _ g0 g2).mono ?_
      rintro e w24 ⟨⟨v, c3, rfl, yd⟩, hb⟩
      obtain ⟨bd, ad, kd, cd, dd, ed, ld, md, rfl⟩ := yd.opened
      replace xl := xl.on hb; replace xs := xs.on hb; replace xe := xe.on hb; replace xa := xa.on hb; replace xb := xb.on hb; replace xc := xc.on hb; replace g0 := g0.on hb; replace g1 := g1.on hb; replace g2 := g2.on hb; replace ya := ya.on hb; replace yb := yb.on hb; replace yc := yc.on hb
      have hz24 := hb.size
      try simp at hz24
      replace hB := hB.trans (hb.mono hB.size); clear hb
      have ps := xs.all4
      have pe := xe.all4
      have pa := xa.all4
      have pb := xb.all4
      have pc := xc.all4
      have lts := xs.lt
      have lte := xe.lt
      have lta := xa.lt
      have ltb := xb.lt
      have ltc := xc.lt
      go_wp2_with fail
      clear lts lte lta ltb ltc ps pe pa pb pc
      have hb := ((Below.refl w24.heap.size w24).alloc (Nat.le_refl _) (.cells #[.bool bd, .slice ad kd cd, .bool dd, .slice ed ld md] 39))
      have xd : Bk _ w24.heap.size #[.bool bd, .slice ad kd cd, .bool dd, .slice ed ld md] 39 := (Bk.new w24 #[.bool bd, .slice ad kd cd, .bool dd, .slice ed ld md] 39)
      replace xl := xl.on hb; replace xs := xs.on hb; replace xe := xe.on hb; replace xa := xa.on hb; replace xb := xb.on hb; replace xc := xc.on hb; replace g0 := g0.on hb; replace g1 := g1.on hb; replace g2 := g2.on hb; replace ya := ya.on hb; replace yb := yb.on hb; replace yc := yc.on hb; replace yd := yd.on hb; replace hB := hB.trans (hb.mono hB.size); clear hb
      obtain ⟨wmd, hwmd⟩ : ∃ W, W = (w24.alloc (.cells #[.bool bd, .slice ad kd cd, .bool dd, .slice ed ld md] 39)) := ⟨_, rfl⟩
      rw [← hwmd] at hB xl xs xe xa xb xc xd g0 g1 g2 ya yb yc yd ⊢
      clear hwmd
      have ps := xs.all4
      have pe := xe.all4
      have pa := xa.all4
      have pb := xb.all4
      have pc := xc.all4
      have pd := xd.all4
      have lts := xs.lt
      have lte := xe.lt
      have lta := xa.lt
      have ltb := xb.lt
      have ltc := xc.lt
      have ltd := xd.lt
      go_wp2_with fail
      clear lts lte lta ltb ltc ltd ps pe pa pb pc pd
      refine (HS.out _ _ _ _ _ _ _ ya yb).mono ?_
      rintro e w25 ⟨rfl, hb⟩
      replace xl := xl.on hb; replace xs := xs.on hb; replace xe := xe.on hb; replace xa := xa.on hb; replace xb := xb.on hb; replace xc := xc.on hb; replace xd := xd.on hb; replace g0 := g0.on hb; replace g1 := g1.on hb; replace g2 := g2.on hb; replace ya := ya.on hb; replace yb := yb.on hb; replace yc := yc.on hb; replace yd := yd.on hb
      have hz25 := hb.size
      try simp at hz25
      replace hB := hB.trans (hb.mono hB.size); clear hb
      have ps := xs.all4
      have pe := xe.all4
      have pa := xa.all4
      have pb := xb.all4
      have pc := xc.all4
      have pd := xd.all4
      have lts := xs.lt
      have lte := xe.lt
      have lta := xa.lt
      have ltb := xb.lt
      have ltc := xc.lt
      have ltd := xd.lt
      go_wp2_with fail
      clear lts lte lta ltb ltc ltd ps pe pa pb pc pd
      refine (HS.out _ _ _ _ _ _ _ yc yd).mono ?_
      rintro e w26 ⟨rfl, hb⟩
      replace xl := xl.on hb; replace xs := xs.on hb; replace xe := xe.on hb; replace xa := xa.on hb; replace xb := xb.on hb; replace xc := xc.on hb; replace xd := xd.on hb; replace g0 := g0.on hb; replace g1 := g1.on hb; replace g2 := g2.on hb; replace ya := ya.on hb; replace yb := yb.on hb; replace yc := yc.on hb; replace yd := yd.on hb
      have hz26 := hb.size
      try simp at hz26
      replace hB := hB.trans (hb.mono hB.size); clear hb ya yb yc yd xa xb xc xd xs xe
      go_wp2_with fail
      exact ⟨⟨⟨xl, g0, g1, g2, hB⟩, .inr (.inr rfl)⟩, by simp [intOf]⟩
    ·
     have pl0 := xl.cell 0
     have fl0 := xl.free 0
     have pl1 := xl.cell 1
     have fl1 := xl.free 1
     have pl2 := xl.cell 2
     have fl2 := xl.free 2
     have pl3 := xl.cell 3
     have fl3 := xl.free 3
     have pl4 := xl.cell 4
     have fl4 := xl.free 4
     have pl5 := xl.cell 5
     have fl5 := xl.free 5
     have pl6 := xl.cell 6
     have fl6 := xl.free 6
     have pl7 := xl.cell 7
     have fl7 := xl.free 7
     have pl8 := xl.cell 8
     have fl8 := xl.free 8
     have pl9 := xl.cell 9
     have fl9 := xl.free 9
     have pl10 := xl.cell 10
     have fl10 := xl.free 10
     have pl11 := xl.cell 11
     have fl11 := xl.free 11
     simp only [List.getElem?_toArray, List.getElem?_cons_zero, List.getElem?_cons_succ] at pl0 pl1 pl2 pl3 pl4 pl5 pl6 pl7 pl8 pl9 pl10 pl11
     have ltl := xl.lt
     go_wp2_with fail
     clear ltl pl0 fl0 pl1 fl1 pl2 fl2 pl3 fl3 pl4 fl4 pl5 fl5 pl6 fl6 pl7 fl7 pl8 fl8 pl9 fl9 pl10 fl10 pl11 fl11
     refine (law2_awake_any _).mono ?_
     rintro e w99 ⟨rfl, hb⟩
     go_wp2
     go_ret
     exact ⟨rfl, hB.trans (hb.mono hB.size)⟩
end Go.Proofs.YtmbcnfogjncdaaaGreat
