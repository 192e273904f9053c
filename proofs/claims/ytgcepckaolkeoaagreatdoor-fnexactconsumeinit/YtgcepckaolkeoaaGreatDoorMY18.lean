import Derived.Test.YtgcepckaolkeoaaGreatDoorMY17
namespace Go.Proofs.YtgcepckaolkeoaaGreatDoor
open Go.RowKit
open Go.Proofs.Tryz
open Go renaming heap_alloc_new → hAN, wpList_load_row → wpLr, wpQuiet_nil → wqN
open List renaming drop_succ_cons → dJ, drop_zero → dY, length_append → lQ, mem_cons_of_mem → mC, mem_cons_self → mQ, not_mem_nil → nY, take_succ_cons → tU, take_zero → tJ
open Nat renaming le_refl → nQ
set_option linter.unusedVariables false
set_option maxRecDepth 100000 in
set_option maxHeartbeats 8000000 in
theorem abA (px pz qx qz u:List Int) (Hpx:Dg px) (Hpz:Dg pz) (Hqx:Dg qx) (Hqz:Dg qz) (Hu:Dg u) (w:World):
 Calls prog 76 #[.agg (Iv .i64 (px++pz)),.agg (Iv .i64 (qx++qz)),.agg (Iv .i64 u)] w fun e w'=>e=.returned (.agg (Iv .i64 (sK px pz qx qz++sL px pz qx qz u)))∧Below w.heap.size w w':=by
 have hpx:Hid (Dg px):=Hpx
 have lpx:Hid (px.length=16):=Hpx.1
 have hpz:Hid (Dg pz):=Hpz
 have lpz:Hid (pz.length=16):=Hpz.1
 have hqx:Hid (Dg qx):=Hqx
 have lqx:Hid (qx.length=16):=Hqx.1
 have hqz:Hid (Dg qz):=Hqz
 have lqz:Hid (qz.length=16):=Hqz.1
 have hu:Hid (Dg u):=Hu
 have lu:Hid (u.length=16):=Hu.1
 clear Hpx Hpz Hqx Hqz Hu
 have hzl:=tS
 have hzp:=GD
 obtain⟨W,hW,g0,g1,g2,g3,hsz,hBe⟩:=qZ w (.cells (Iv .i64 (px++pz)) 110) (.cells (Iv .i64 (qx++qz)) 110) (.cells (Iv .i64 u) 108) (.cells (Iv .i64 (aA 32)) 110)
 have F:Hid (Rw w [((w.heap.size+1+1+1),Iv .i64 (aA 32),110),((w.heap.size+1+1),Iv .i64 u,108),((w.heap.size+1),Iv .i64 (qx++qz),110),(w.heap.size,Iv .i64 (px++pz),110)] W):=
  ⟨hBe,fun r hr=>by
   simp only[List.mem_cons,nY,or_false]at hr
   rcases hr with rfl|rfl|rfl|rfl
   ·exact⟨by simp only;omega,by simp only;omega,g3⟩
   ·exact⟨by simp only;omega,by simp only;omega,g2⟩
   ·exact⟨by simp only;omega,by simp only;omega,g1⟩
   ·exact⟨by simp only;omega,by simp only;omega,g0⟩⟩
 have HW:Hid _:=hW
 clear hW g0 g1 g2 g3 hBe hsz
 go_enter func76,ntmps76
 have G0:Hid (((((w.alloc (.cells (Iv .i64 (px++pz)) 110)).alloc (.cells (Iv .i64 (qx++qz)) 110)).alloc (.cells (Iv .i64 u) 108)).alloc (.cells (Iv .i64 (aA 32)) 110)).heap[w.heap.size]? =some (.cells (Iv .i64 (px++pz)) 110)):=by show _=_;rw[HW.out];exact(F.out.row _ (mC _ (mC _ (mC _ mQ)))).2.2
 have G1:Hid (((((w.alloc (.cells (Iv .i64 (px++pz)) 110)).alloc (.cells (Iv .i64 (qx++qz)) 110)).alloc (.cells (Iv .i64 u) 108)).alloc (.cells (Iv .i64 (aA 32)) 110)).heap[w.heap.size]? =some (.cells (Iv .i64 (px++pz)) 110)):=by show _=_;rw[HW.out];exact(F.out.row _ (mC _ (mC _ (mC _ mQ)))).2.2
 go_wp2_with(with_reducible refine aJ ?_;first
  | refine wpList_load_mid rfl 108 _ rfl w.heap.size 0 rfl (px.map (Value.int .i64)) _ (gW G0.out) underlying108 rfl (jJ lpx.out) ?_
  | refine wpList_load_mid rfl 108 _ rfl w.heap.size 16 rfl (pz.map (Value.int .i64)) _ (gZ 16 lpx.out G1.out) underlying108 rfl (jJ lpz.out) ?_)
 refine(yI px pz hpx.out hpz.out _).mono ?_
 rintro e w1a ⟨rfl,hb⟩
 rw[HW.out]at hb
 clear HW
 have F1:Hid (Rw w [((w.heap.size+1+1+1),Iv .i64 (aA 32),110),((w.heap.size+1+1),Iv .i64 u,108),((w.heap.size+1),Iv .i64 (qx++qz),110),(w.heap.size,Iv .i64 (px++pz),110)] w1a):=F.out.later hb (nQ _)
 clear hb F G0 G1
 obtain⟨a,ea⟩:∃q9,nO px pz=q9:=⟨_,rfl⟩
 have ha:Hid (Dg a):=by show Dg a;rw[←ea];exact qT hpx.out hpz.out
 have la:Hid (a.length=16):=ha.out.1
 rw[ea]
 have Ea:Hid _:=ea
 clear ea
 have KA:Hid ((w1a.alloc (.cells (Iv .i64 (aA 16)) 108)).heap[w1a.heap.size]? =some (.cells (Iv .i64 (aA 16)) 108)):=hAN _ _
 go_wp2_with(refine wpPr rfl 108 _ _ rfl w1a.heap.size (Iv .i64 a) rfl rfl _ _ KA.out (aT ha.out.1) (eS ha.out.1) (aG _ _) (fun w1b hP=>sH ?_))
 refine aH ?_
 have F2:=F1.out.newRow hP
 obtain⟨ba,eb⟩:∃x,x=w1a.heap.size:=⟨_,rfl⟩
 have hltba:w.heap.size≤ba:=by rw[eb];exact F1.out.size
 have nbawheapsize111:(w.heap.size+1+1+1)≠ba:=by rw[eb];exact Nat.ne_of_lt (F1.out.row _ mQ).2.1
 rw[←eb]at F2⊢
 have F:Hid (Rw w [(ba,Iv .i64 a,108),((w.heap.size+1+1+1),Iv .i64 (aA 32),110),((w.heap.size+1+1),Iv .i64 u,108),((w.heap.size+1),Iv .i64 (qx++qz),110),(w.heap.size,Iv .i64 (px++pz),110)] w1b):=F2
 clear F1 F2 hP KA eb
 have G0:Hid _:=(F.out.row _ (mC _ (mC _ (mC _ (mC _ mQ))))).2.2
 have G1:Hid _:=(F.out.row _ (mC _ (mC _ (mC _ (mC _ mQ))))).2.2
 go_wp2_with(with_reducible refine aJ ?_;first
  | refine wpList_load_mid rfl 108 _ rfl w.heap.size 0 rfl (px.map (Value.int .i64)) _ (gW G0.out) underlying108 rfl (jJ lpx.out) ?_
  | refine wpList_load_mid rfl 108 _ rfl w.heap.size 16 rfl (pz.map (Value.int .i64)) _ (gZ 16 lpx.out G1.out) underlying108 rfl (jJ lpz.out) ?_)
 refine(zN px pz hpx.out hpz.out _).mono ?_
 rintro e w2a ⟨rfl,hb⟩
 have F1:Hid (Rw w [(ba,Iv .i64 a,108),((w.heap.size+1+1+1),Iv .i64 (aA 32),110),((w.heap.size+1+1),Iv .i64 u,108),((w.heap.size+1),Iv .i64 (qx++qz),110),(w.heap.size,Iv .i64 (px++pz),110)] w2a):=F.out.later hb (nQ _)
 clear hb F G0 G1
 obtain⟨b,eb⟩:∃q9,nX px pz=q9:=⟨_,rfl⟩
 have hb:Hid (Dg b):=by show Dg b;rw[←eb];exact nH hpx.out hpz.out
 have lb:Hid (b.length=16):=hb.out.1
 rw[eb]
 have Eb:Hid _:=eb
 clear eb
 have KA:Hid ((w2a.alloc (.cells (Iv .i64 (aA 16)) 108)).heap[w2a.heap.size]? =some (.cells (Iv .i64 (aA 16)) 108)):=hAN _ _
 go_wp2_with(refine wpPr rfl 108 _ _ rfl w2a.heap.size (Iv .i64 b) rfl rfl _ _ KA.out (aT hb.out.1) (eS hb.out.1) (aG _ _) (fun w2b hP=>sH ?_))
 refine aH ?_
 have F2:=F1.out.newRow hP
 obtain⟨bb,eb⟩:∃x,x=w2a.heap.size:=⟨_,rfl⟩
 have hltbb:w.heap.size≤bb:=by rw[eb];exact F1.out.size
 have nbbwheapsize111:(w.heap.size+1+1+1)≠bb:=by rw[eb];exact Nat.ne_of_lt (F1.out.row _ (mC _ mQ)).2.1
 rw[←eb]at F2⊢
 have F:Hid (Rw w [(bb,Iv .i64 b,108),(ba,Iv .i64 a,108),((w.heap.size+1+1+1),Iv .i64 (aA 32),110),((w.heap.size+1+1),Iv .i64 u,108),((w.heap.size+1),Iv .i64 (qx++qz),110),(w.heap.size,Iv .i64 (px++pz),110)] w2b):=F2
 clear F1 F2 hP KA eb
 have G0:Hid _:=(F.out.row _ (mC _ (mC _ (mC _ (mC _ mQ))))).2.2
 have G1:Hid _:=(F.out.row _ (mC _ (mC _ (mC _ (mC _ mQ))))).2.2
 go_wp2_with(with_reducible refine aJ ?_;first
  | refine wpList_load_mid rfl 108 _ rfl (w.heap.size+1) 0 rfl (qx.map (Value.int .i64)) _ (gW G0.out) underlying108 rfl (jJ lqx.out) ?_
  | refine wpList_load_mid rfl 108 _ rfl (w.heap.size+1) 16 rfl (qz.map (Value.int .i64)) _ (gZ 16 lqx.out G1.out) underlying108 rfl (jJ lqz.out) ?_)
 refine(yI qx qz hqx.out hqz.out _).mono ?_
 rintro e w3a ⟨rfl,hb⟩
 have F1:Hid (Rw w [(bb,Iv .i64 b,108),(ba,Iv .i64 a,108),((w.heap.size+1+1+1),Iv .i64 (aA 32),110),((w.heap.size+1+1),Iv .i64 u,108),((w.heap.size+1),Iv .i64 (qx++qz),110),(w.heap.size,Iv .i64 (px++pz),110)] w3a):=F.out.later hb (nQ _)
 clear hb F G0 G1
 obtain⟨c,ec⟩:∃q9,nO qx qz=q9:=⟨_,rfl⟩
 have hc:Hid (Dg c):=by show Dg c;rw[←ec];exact qT hqx.out hqz.out
 have lc:Hid (c.length=16):=hc.out.1
 rw[ec]
 have Ec:Hid _:=ec
 clear ec
 have KA:Hid ((w3a.alloc (.cells (Iv .i64 (aA 16)) 108)).heap[w3a.heap.size]? =some (.cells (Iv .i64 (aA 16)) 108)):=hAN _ _
 go_wp2_with(refine wpPr rfl 108 _ _ rfl w3a.heap.size (Iv .i64 c) rfl rfl _ _ KA.out (aT hc.out.1) (eS hc.out.1) (aG _ _) (fun w3b hP=>sH ?_))
 refine aH ?_
 have F2:=F1.out.newRow hP
 obtain⟨bc,eb⟩:∃x,x=w3a.heap.size:=⟨_,rfl⟩
 have hltbc:w.heap.size≤bc:=by rw[eb];exact F1.out.size
 have nbcwheapsize111:(w.heap.size+1+1+1)≠bc:=by rw[eb];exact Nat.ne_of_lt (F1.out.row _ (mC _ (mC _ mQ))).2.1
 rw[←eb]at F2⊢
 have F:Hid (Rw w [(bc,Iv .i64 c,108),(bb,Iv .i64 b,108),(ba,Iv .i64 a,108),((w.heap.size+1+1+1),Iv .i64 (aA 32),110),((w.heap.size+1+1),Iv .i64 u,108),((w.heap.size+1),Iv .i64 (qx++qz),110),(w.heap.size,Iv .i64 (px++pz),110)] w3b):=F2
 clear F1 F2 hP KA eb
 have G0:Hid _:=(F.out.row _ (mC _ (mC _ (mC _ (mC _ (mC _ mQ)))))).2.2
 have G1:Hid _:=(F.out.row _ (mC _ (mC _ (mC _ (mC _ (mC _ mQ)))))).2.2
 go_wp2_with(with_reducible refine aJ ?_;first
  | refine wpList_load_mid rfl 108 _ rfl (w.heap.size+1) 0 rfl (qx.map (Value.int .i64)) _ (gW G0.out) underlying108 rfl (jJ lqx.out) ?_
  | refine wpList_load_mid rfl 108 _ rfl (w.heap.size+1) 16 rfl (qz.map (Value.int .i64)) _ (gZ 16 lqx.out G1.out) underlying108 rfl (jJ lqz.out) ?_)
 refine(zN qx qz hqx.out hqz.out _).mono ?_
 rintro e w4a ⟨rfl,hb⟩
 have F1:Hid (Rw w [(bc,Iv .i64 c,108),(bb,Iv .i64 b,108),(ba,Iv .i64 a,108),((w.heap.size+1+1+1),Iv .i64 (aA 32),110),((w.heap.size+1+1),Iv .i64 u,108),((w.heap.size+1),Iv .i64 (qx++qz),110),(w.heap.size,Iv .i64 (px++pz),110)] w4a):=F.out.later hb (nQ _)
 clear hb F G0 G1
 obtain⟨d,ed⟩:∃q9,nX qx qz=q9:=⟨_,rfl⟩
 have hd:Hid (Dg d):=by show Dg d;rw[←ed];exact nH hqx.out hqz.out
 have ld:Hid (d.length=16):=hd.out.1
 rw[ed]
 have Ed:Hid _:=ed
 clear ed
 have KA:Hid ((w4a.alloc (.cells (Iv .i64 (aA 16)) 108)).heap[w4a.heap.size]? =some (.cells (Iv .i64 (aA 16)) 108)):=hAN _ _
 go_wp2_with(refine wpPr rfl 108 _ _ rfl w4a.heap.size (Iv .i64 d) rfl rfl _ _ KA.out (aT hd.out.1) (eS hd.out.1) (aG _ _) (fun w4b hP=>sH ?_))
 refine aH ?_
 have F2:=F1.out.newRow hP
 obtain⟨bd,eb⟩:∃x,x=w4a.heap.size:=⟨_,rfl⟩
 have hltbd:w.heap.size≤bd:=by rw[eb];exact F1.out.size
 have nbdwheapsize111:(w.heap.size+1+1+1)≠bd:=by rw[eb];exact Nat.ne_of_lt (F1.out.row _ (mC _ (mC _ (mC _ mQ)))).2.1
 rw[←eb]at F2⊢
 have F:Hid (Rw w [(bd,Iv .i64 d,108),(bc,Iv .i64 c,108),(bb,Iv .i64 b,108),(ba,Iv .i64 a,108),((w.heap.size+1+1+1),Iv .i64 (aA 32),110),((w.heap.size+1+1),Iv .i64 u,108),((w.heap.size+1),Iv .i64 (qx++qz),110),(w.heap.size,Iv .i64 (px++pz),110)] w4b):=F2
 clear F1 F2 hP KA eb
 have G0:Hid _:=(F.out.row _ mQ).2.2
 have G1:Hid _:=(F.out.row _ (mC _ (mC _ (mC _ mQ)))).2.2
 go_wp2_with(with_reducible refine aJ ?_;first
  | refine wpLr rfl 108 _ rfl bd rfl _ (Iv .i64 d) _ _ G0.out underlying108 rfl (aT ld.out) ?_
  | refine wpLr rfl 108 _ rfl ba rfl _ (Iv .i64 a) _ _ G1.out underlying108 rfl (aT la.out) ?_)
 refine(kU d a hd.out ha.out _).mono ?_
 rintro e w5a ⟨rfl,hb⟩
 have F1:Hid (Rw w [(bd,Iv .i64 d,108),(bc,Iv .i64 c,108),(bb,Iv .i64 b,108),(ba,Iv .i64 a,108),((w.heap.size+1+1+1),Iv .i64 (aA 32),110),((w.heap.size+1+1),Iv .i64 u,108),((w.heap.size+1),Iv .i64 (qx++qz),110),(w.heap.size,Iv .i64 (px++pz),110)] w5a):=F.out.later hb (nQ _)
 clear hb F G0 G1
 obtain⟨da,eda⟩:∃q9,fI d a=q9:=⟨_,rfl⟩
 have hda:Hid (Dg da):=by show Dg da;rw[←eda];exact gL hd.out ha.out
 have lda:Hid (da.length=16):=hda.out.1
 rw[eda]
 have Eda:Hid _:=eda
 clear eda
 have KA:Hid ((w5a.alloc (.cells (Iv .i64 (aA 16)) 108)).heap[w5a.heap.size]? =some (.cells (Iv .i64 (aA 16)) 108)):=hAN _ _
 go_wp2_with(refine wpPr rfl 108 _ _ rfl w5a.heap.size (Iv .i64 da) rfl rfl _ _ KA.out (aT hda.out.1) (eS hda.out.1) (aG _ _) (fun w5b hP=>sH ?_))
 refine aH ?_
 have F2:=F1.out.newRow hP
 obtain⟨bda,eb⟩:∃x,x=w5a.heap.size:=⟨_,rfl⟩
 have hltbda:w.heap.size≤bda:=by rw[eb];exact F1.out.size
 have nbdawheapsize111:(w.heap.size+1+1+1)≠bda:=by rw[eb];exact Nat.ne_of_lt (F1.out.row _ (mC _ (mC _ (mC _ (mC _ mQ))))).2.1
 rw[←eb]at F2⊢
 have F:Hid (Rw w [(bda,Iv .i64 da,108),(bd,Iv .i64 d,108),(bc,Iv .i64 c,108),(bb,Iv .i64 b,108),(ba,Iv .i64 a,108),((w.heap.size+1+1+1),Iv .i64 (aA 32),110),((w.heap.size+1+1),Iv .i64 u,108),((w.heap.size+1),Iv .i64 (qx++qz),110),(w.heap.size,Iv .i64 (px++pz),110)] w5b):=F2
 clear F1 F2 hP KA eb
 have G0:Hid _:=(F.out.row _ (mC _ (mC _ mQ))).2.2
 have G1:Hid _:=(F.out.row _ (mC _ (mC _ (mC _ mQ)))).2.2
 go_wp2_with(with_reducible refine aJ ?_;first
  | refine wpLr rfl 108 _ rfl bc rfl _ (Iv .i64 c) _ _ G0.out underlying108 rfl (aT lc.out) ?_
  | refine wpLr rfl 108 _ rfl bb rfl _ (Iv .i64 b) _ _ G1.out underlying108 rfl (aT lb.out) ?_)
 refine(kU c b hc.out hb.out _).mono ?_
 rintro e w6a ⟨rfl,hb⟩
 have F1:Hid (Rw w [(bda,Iv .i64 da,108),(bd,Iv .i64 d,108),(bc,Iv .i64 c,108),(bb,Iv .i64 b,108),(ba,Iv .i64 a,108),((w.heap.size+1+1+1),Iv .i64 (aA 32),110),((w.heap.size+1+1),Iv .i64 u,108),((w.heap.size+1),Iv .i64 (qx++qz),110),(w.heap.size,Iv .i64 (px++pz),110)] w6a):=F.out.later hb (nQ _)
 clear hb F G0 G1
 obtain⟨cb,ecb⟩:∃q9,fI c b=q9:=⟨_,rfl⟩
 have hcb:Hid (Dg cb):=by show Dg cb;rw[←ecb];exact gL hc.out hb.out
 have lcb:Hid (cb.length=16):=hcb.out.1
 rw[ecb]
 have Ecb:Hid _:=ecb
 clear ecb
 have KA:Hid ((w6a.alloc (.cells (Iv .i64 (aA 16)) 108)).heap[w6a.heap.size]? =some (.cells (Iv .i64 (aA 16)) 108)):=hAN _ _
 go_wp2_with(refine wpPr rfl 108 _ _ rfl w6a.heap.size (Iv .i64 cb) rfl rfl _ _ KA.out (aT hcb.out.1) (eS hcb.out.1) (aG _ _) (fun w6b hP=>sH ?_))
 refine aH ?_
 have F2:=F1.out.newRow hP
 obtain⟨bcb,eb⟩:∃x,x=w6a.heap.size:=⟨_,rfl⟩
 have hltbcb:w.heap.size≤bcb:=by rw[eb];exact F1.out.size
 have nbcbwheapsize111:(w.heap.size+1+1+1)≠bcb:=by rw[eb];exact Nat.ne_of_lt (F1.out.row _ (mC _ (mC _ (mC _ (mC _ (mC _ mQ)))))).2.1
 rw[←eb]at F2⊢
 have F:Hid (Rw w [(bcb,Iv .i64 cb,108),(bda,Iv .i64 da,108),(bd,Iv .i64 d,108),(bc,Iv .i64 c,108),(bb,Iv .i64 b,108),(ba,Iv .i64 a,108),((w.heap.size+1+1+1),Iv .i64 (aA 32),110),((w.heap.size+1+1),Iv .i64 u,108),((w.heap.size+1),Iv .i64 (qx++qz),110),(w.heap.size,Iv .i64 (px++pz),110)] w6b):=F2
 clear F1 F2 hP KA eb
 have G0:Hid _:=(F.out.row _ (mC _ mQ)).2.2
 have G1:Hid _:=(F.out.row _ mQ).2.2
 go_wp2_with(with_reducible refine aJ ?_;first
  | refine wpLr rfl 108 _ rfl bda rfl _ (Iv .i64 da) _ _ G0.out underlying108 rfl (aT lda.out) ?_
  | refine wpLr rfl 108 _ rfl bcb rfl _ (Iv .i64 cb) _ _ G1.out underlying108 rfl (aT lcb.out) ?_)
 refine(yI da cb hda.out hcb.out _).mono ?_
 rintro e w7a ⟨rfl,hb⟩
 have F1:Hid (Rw w [(bcb,Iv .i64 cb,108),(bda,Iv .i64 da,108),(bd,Iv .i64 d,108),(bc,Iv .i64 c,108),(bb,Iv .i64 b,108),(ba,Iv .i64 a,108),((w.heap.size+1+1+1),Iv .i64 (aA 32),110),((w.heap.size+1+1),Iv .i64 u,108),((w.heap.size+1),Iv .i64 (qx++qz),110),(w.heap.size,Iv .i64 (px++pz),110)] w7a):=F.out.later hb (nQ _)
 clear hb F G0 G1
 obtain⟨s,es⟩:∃q9,nO da cb=q9:=⟨_,rfl⟩
 have hs:Hid (Dg s):=by show Dg s;rw[←es];exact qT hda.out hcb.out
 have ls:Hid (s.length=16):=hs.out.1
 rw[es]
 have Es:Hid _:=es
 clear es
 have KA:Hid ((w7a.alloc (.cells (Iv .i64 (aA 16)) 108)).heap[w7a.heap.size]? =some (.cells (Iv .i64 (aA 16)) 108)):=hAN _ _
 go_wp2_with(refine wpPr rfl 108 _ _ rfl w7a.heap.size (Iv .i64 s) rfl rfl _ _ KA.out (aT hs.out.1) (eS hs.out.1) (aG _ _) (fun w7b hP=>sH ?_))
 refine aH ?_
 have F2:=F1.out.newRow hP
 obtain⟨bs,eb⟩:∃x,x=w7a.heap.size:=⟨_,rfl⟩
 have hltbs:w.heap.size≤bs:=by rw[eb];exact F1.out.size
 have nbswheapsize111:(w.heap.size+1+1+1)≠bs:=by rw[eb];exact Nat.ne_of_lt (F1.out.row _ (mC _ (mC _ (mC _ (mC _ (mC _ (mC _ mQ))))))).2.1
 rw[←eb]at F2⊢
 have F:Hid (Rw w [(bs,Iv .i64 s,108),(bcb,Iv .i64 cb,108),(bda,Iv .i64 da,108),(bd,Iv .i64 d,108),(bc,Iv .i64 c,108),(bb,Iv .i64 b,108),(ba,Iv .i64 a,108),((w.heap.size+1+1+1),Iv .i64 (aA 32),110),((w.heap.size+1+1),Iv .i64 u,108),((w.heap.size+1),Iv .i64 (qx++qz),110),(w.heap.size,Iv .i64 (px++pz),110)] w7b):=F2
 clear F1 F2 hP KA eb
 have G0:Hid _:=(F.out.row _ (mC _ (mC _ mQ))).2.2
 have G1:Hid _:=(F.out.row _ (mC _ mQ)).2.2
 go_wp2_with(with_reducible refine aJ ?_;first
  | refine wpLr rfl 108 _ rfl bda rfl _ (Iv .i64 da) _ _ G0.out underlying108 rfl (aT lda.out) ?_
  | refine wpLr rfl 108 _ rfl bcb rfl _ (Iv .i64 cb) _ _ G1.out underlying108 rfl (aT lcb.out) ?_)
 refine(zN da cb hda.out hcb.out _).mono ?_
 rintro e w8a ⟨rfl,hb⟩
 have F1:Hid (Rw w [(bs,Iv .i64 s,108),(bcb,Iv .i64 cb,108),(bda,Iv .i64 da,108),(bd,Iv .i64 d,108),(bc,Iv .i64 c,108),(bb,Iv .i64 b,108),(ba,Iv .i64 a,108),((w.heap.size+1+1+1),Iv .i64 (aA 32),110),((w.heap.size+1+1),Iv .i64 u,108),((w.heap.size+1),Iv .i64 (qx++qz),110),(w.heap.size,Iv .i64 (px++pz),110)] w8a):=F.out.later hb (nQ _)
 clear hb F G0 G1
 obtain⟨v,ev⟩:∃q9,nX da cb=q9:=⟨_,rfl⟩
 have hv:Hid (Dg v):=by show Dg v;rw[←ev];exact nH hda.out hcb.out
 have lv:Hid (v.length=16):=hv.out.1
 rw[ev]
 have Ev:Hid _:=ev
 clear ev
 have KA:Hid ((w8a.alloc (.cells (Iv .i64 (aA 16)) 108)).heap[w8a.heap.size]? =some (.cells (Iv .i64 (aA 16)) 108)):=hAN _ _
 go_wp2_with(refine wpPr rfl 108 _ _ rfl w8a.heap.size (Iv .i64 v) rfl rfl _ _ KA.out (aT hv.out.1) (eS hv.out.1) (aG _ _) (fun w8b hP=>sH ?_))
 refine aH ?_
 have F2:=F1.out.newRow hP
 obtain⟨bv,eb⟩:∃x,x=w8a.heap.size:=⟨_,rfl⟩
 have hltbv:w.heap.size≤bv:=by rw[eb];exact F1.out.size
 have nbvwheapsize111:(w.heap.size+1+1+1)≠bv:=by rw[eb];exact Nat.ne_of_lt (F1.out.row _ (mC _ (mC _ (mC _ (mC _ (mC _ (mC _ (mC _ mQ)))))))).2.1
 rw[←eb]at F2⊢
 have F:Hid (Rw w [(bv,Iv .i64 v,108),(bs,Iv .i64 s,108),(bcb,Iv .i64 cb,108),(bda,Iv .i64 da,108),(bd,Iv .i64 d,108),(bc,Iv .i64 c,108),(bb,Iv .i64 b,108),(ba,Iv .i64 a,108),((w.heap.size+1+1+1),Iv .i64 (aA 32),110),((w.heap.size+1+1),Iv .i64 u,108),((w.heap.size+1),Iv .i64 (qx++qz),110),(w.heap.size,Iv .i64 (px++pz),110)] w8b):=F2
 clear F1 F2 hP KA eb
 go_wp2_with fail
 refine wRt 9 (fun w'=>∃x:yG w8b.heap.size w8b,w'=x.w) (.held [0,1,3,4,5] (.tail 2 (.tail 6 (.tail 7 (.tail 8 (.last 9 .done)))))) kJ (by kernel_rfl) ⟨⟨_,bDr (Below.refl _ _) 1⟩,rfl⟩ ?_
 simp only[dP,oS]
 refine wqLr rfl 108 _ rfl bs rfl _ (Iv .i64 s) _ _ (fun w' hw'=>by obtain⟨x,rfl⟩:=hw';exact(F.out.later x.bel (nQ _)).row _ (mC _ mQ)|>.2.2) underlying108 rfl (aT hs.out.1) ?_
 simp only[pS]
 refine wqLr rfl 108 _ rfl bs rfl _ (Iv .i64 s) _ _ (fun w' hw'=>by obtain⟨x,rfl⟩:=hw';exact(F.out.later x.bel (nQ _)).row _ (mC _ mQ)|>.2.2) underlying108 rfl (aT hs.out.1) ?_
 simp only[pS]
 refine wqLr rfl 108 _ rfl (w.heap.size+1+1) rfl _ (Iv .i64 u) _ _ (fun w' hw'=>by obtain⟨x,rfl⟩:=hw';exact(F.out.later x.bel (nQ _)).row _ (mC _ (mC _ (mC _ (mC _ (mC _ (mC _ (mC _ (mC _ (mC _ mQ)))))))))|>.2.2) underlying108 rfl (aT hu.out.1) ?_
 simp only[pS]
 refine wqLr rfl 108 _ rfl bv rfl _ (Iv .i64 v) _ _ (fun w' hw'=>by obtain⟨x,rfl⟩:=hw';exact(F.out.later x.bel (nQ _)).row _ mQ|>.2.2) underlying108 rfl (aT hv.out.1) ?_
 simp only[pS]
 refine wqLr rfl 108 _ rfl bv rfl _ (Iv .i64 v) _ _ (fun w' hw'=>by obtain⟨x,rfl⟩:=hw';exact(F.out.later x.bel (nQ _)).row _ mQ|>.2.2) underlying108 rfl (aT hv.out.1) ?_
 simp only[pS]
 refine wqN ?_
 go_wp2_with fail
 refine(kU s s hs.out hs.out _).mono ?_
 rintro e z1 ⟨rfl,hb⟩
 have B1:Hid (Below w8b.heap.size w8b z1):=(bDr (Below.refl w8b.heap.size w8b) 1).trans hb
 clear hb
 obtain⟨X,eX⟩:∃q9,fI s s=q9:=⟨_,rfl⟩
 have hX:Hid (Dg X):=by show Dg X;rw[←eX];exact gL hs.out hs.out
 rw[eX]
 have EX:Hid _:=eX
 clear eX
 go_wp2_with fail
 refine⟨⟨⟨z1,B1.out⟩,rfl⟩,?_⟩
 go_wp2_with fail
 refine(kU v v hv.out hv.out _).mono ?_
 rintro e z2 ⟨rfl,hb⟩
 have B2:Hid (Below w8b.heap.size w8b z2):=B1.out.trans (hb.mono B1.out.size)
 clear hb B1
 obtain⟨vv,evv⟩:∃q9,fI v v=q9:=⟨_,rfl⟩
 have hvv:Hid (Dg vv):=by show Dg vv;rw[←evv];exact gL hv.out hv.out
 rw[evv]
 have Evv:Hid _:=evv
 clear evv
 go_wp2_with fail
 refine⟨⟨⟨z2,B2.out⟩,rfl⟩,?_⟩
 go_wp2_with fail
 refine(kU u vv hu.out hvv.out _).mono ?_
 rintro e z3 ⟨rfl,hb⟩
 have B3:Hid (Below w8b.heap.size w8b z3):=B2.out.trans (hb.mono B2.out.size)
 clear hb B2
 obtain⟨Z,eZ⟩:∃q9,fI u vv=q9:=⟨_,rfl⟩
 have hZ:Hid (Dg Z):=by show Dg Z;rw[←eZ];exact gL hu.out hvv.out
 rw[eZ]
 have EZ:Hid _:=eZ
 clear eZ
 go_wp2_with fail
 refine⟨⟨⟨z3,B3.out⟩,rfl⟩,?_⟩
 have hbu:=J8 X Z hX.out.1 hZ.out.1
 have hl32:Hid ((X++Z).length=32):=by show _=_;rw[lQ,hX.out.1,hZ.out.1]
 refine aV rfl 110 _ rfl (Iv .i64 (X++Z)) _ (by kernel_rfl) hbu ?_
 go_wp2_with fail
 refine⟨⟨⟨z3,B3.out⟩,rfl⟩,?_⟩
 clear hbu
 have F9:Hid (Rw w [(bv,Iv .i64 v,108),(bs,Iv .i64 s,108),(bcb,Iv .i64 cb,108),(bda,Iv .i64 da,108),(bd,Iv .i64 d,108),(bc,Iv .i64 c,108),(bb,Iv .i64 b,108),(ba,Iv .i64 a,108),((w.heap.size+1+1+1),Iv .i64 (aA 32),110),((w.heap.size+1+1),Iv .i64 u,108),((w.heap.size+1),Iv .i64 (qx++qz),110),(w.heap.size,Iv .i64 (px++pz),110)] z3):=F.out.later B3.out (nQ _)
 have G9:Hid _:=(F9.out.row _ (mC _ (mC _ (mC _ (mC _ (mC _ (mC _ (mC _ (mC _ mQ))))))))).2.2
 have BW:Hid _:=F9.out.bel
 clear F9 F B3
 go_wp2_with(refine wpPr rfl 110 _ _ rfl (w.heap.size+1+1+1) (Iv .i64 (X++Z)) rfl rfl _ _ G9.out (dE hl32.out) (kF hl32.out) (aG _ _) (fun Z9 hP=>sH ?_))
 refine aH ?_
 refine m6 ?_
 have B9:=hP.below _ _ BW.out (by omega)
 have K9:=hP.here
 clear hP G9 BW
 have hv:Hid (sK px pz qx qz++sL px pz qx qz u=X++Z):=by show _=_;unfold sK sL;rw[Ea.out,Eb.out,Ec.out,Ed.out,Eda.out,Ecb.out,Es.out,Ev.out,EX.out,Evv.out,EZ.out]
 obtain⟨r,er⟩:∃x,X++Z=x:=⟨_,rfl⟩
 rw[er]at K9 hl32 hv
 clear er
 go_wp2
 exact bodyPost_ret (v:=.agg (Iv .i64 r)) (results_cell_row rfl _ _ _ _ (Iv .i64 r) _ _ rfl K9 underlying110 rfl (dE hl32.out)) rfl ⟨by rw[hv.out],B9⟩
set_option maxRecDepth 100000 in
set_option maxHeartbeats 8000000 in
theorem RI (x z:List Int) (Hx:Dg x) (Hz:Dg z) (w:World):
 Calls prog 78 #[.agg (Iv .i64 (x++z))] w fun e w'=>e=.returned (.agg (Iv .i64 (oM x z++oO x z)))∧Below w.heap.size w w':=by
 have hx:Hid (Dg x):=Hx
 have lx:Hid (x.length=16):=Hx.1
 have hz:Hid (Dg z):=Hz
 have lz:Hid (z.length=16):=Hz.1
 clear Hx Hz
 have hzl:=tS
 have hzp:=GD
 have hz16:=DI
 have hz0:Hid ((aA 16).length=16):=rfl
 obtain⟨W,hW,g0,g1,hsz,hBe⟩:=kX w (.cells (Iv .i64 (x++z)) 110) (.cells (Iv .i64 (aA 32)) 110)
 have F:Hid (Rw w [((w.heap.size+1),Iv .i64 (aA 32),110),(w.heap.size,Iv .i64 (x++z),110)] W):=
  ⟨hBe,fun r hr=>by
   simp only[List.mem_cons,nY,or_false]at hr
   rcases hr with rfl|rfl
   ·exact⟨by simp only;omega,by simp only;omega,g1⟩
   ·exact⟨by simp only;omega,by simp only;omega,g0⟩⟩
 have HW:Hid _:=hW
 clear hW g0 g1 hBe hsz
 go_enter func78,ntmps78
 have G0:Hid (((w.alloc (.cells (Iv .i64 (x++z)) 110)).alloc (.cells (Iv .i64 (aA 32)) 110)).heap[w.heap.size]? =some (.cells (Iv .i64 (x++z)) 110)):=by show _=_;rw[HW.out];exact(F.out.row _ (mC _ mQ)).2.2
 have G1:Hid (((w.alloc (.cells (Iv .i64 (x++z)) 110)).alloc (.cells (Iv .i64 (aA 32)) 110)).heap[w.heap.size]? =some (.cells (Iv .i64 (x++z)) 110)):=by show _=_;rw[HW.out];exact(F.out.row _ (mC _ mQ)).2.2
 go_wp2_with(with_reducible refine aJ ?_;first
  | refine wpList_load_mid rfl 108 _ rfl w.heap.size 0 rfl (x.map (Value.int .i64)) _ (gW G0.out) underlying108 rfl (jJ lx.out) ?_
  | refine wpList_load_mid rfl 108 _ rfl w.heap.size 16 rfl (z.map (Value.int .i64)) _ (gZ 16 lx.out G1.out) underlying108 rfl (jJ lz.out) ?_)
 refine(yI x z hx.out hz.out _).mono ?_
 rintro e w1a ⟨rfl,hb⟩
 rw[HW.out]at hb
 clear HW
 have F1:Hid (Rw w [((w.heap.size+1),Iv .i64 (aA 32),110),(w.heap.size,Iv .i64 (x++z),110)] w1a):=F.out.later hb (nQ _)
 clear hb F G0 G1
 obtain⟨a,ea⟩:∃q9,nO x z=q9:=⟨_,rfl⟩
 have ha:Hid (Dg a):=by show Dg a;rw[←ea];exact qT hx.out hz.out
 have la:Hid (a.length=16):=ha.out.1
 rw[ea]
 have Ea:Hid _:=ea
 clear ea
 have KA:Hid ((w1a.alloc (.cells (Iv .i64 (aA 16)) 108)).heap[w1a.heap.size]? =some (.cells (Iv .i64 (aA 16)) 108)):=hAN _ _
 go_wp2_with(refine wpPr rfl 108 _ _ rfl w1a.heap.size (Iv .i64 a) rfl rfl _ _ KA.out (aT ha.out.1) (eS ha.out.1) (aG _ _) (fun w1b hP=>sH ?_))
 refine aH ?_
 have F2:=F1.out.newRow hP
 obtain⟨ba,eb⟩:∃x,x=w1a.heap.size:=⟨_,rfl⟩
 have hltba:w.heap.size≤ba:=by rw[eb];exact F1.out.size
 have nbawheapsize1:(w.heap.size+1)≠ba:=by rw[eb];exact Nat.ne_of_lt (F1.out.row _ mQ).2.1
 rw[←eb]at F2⊢
 have F:Hid (Rw w [(ba,Iv .i64 a,108),((w.heap.size+1),Iv .i64 (aA 32),110),(w.heap.size,Iv .i64 (x++z),110)] w1b):=F2
 clear F1 F2 hP KA eb
 have G0:Hid _:=(F.out.row _ (mC _ (mC _ mQ))).2.2
 have G1:Hid _:=(F.out.row _ (mC _ (mC _ mQ))).2.2
 go_wp2_with(with_reducible refine aJ ?_;first
  | refine wpList_load_mid rfl 108 _ rfl w.heap.size 0 rfl (x.map (Value.int .i64)) _ (gW G0.out) underlying108 rfl (jJ lx.out) ?_
  | refine wpList_load_mid rfl 108 _ rfl w.heap.size 16 rfl (z.map (Value.int .i64)) _ (gZ 16 lx.out G1.out) underlying108 rfl (jJ lz.out) ?_)
 refine(zN x z hx.out hz.out _).mono ?_
 rintro e w2a ⟨rfl,hb⟩
 have F1:Hid (Rw w [(ba,Iv .i64 a,108),((w.heap.size+1),Iv .i64 (aA 32),110),(w.heap.size,Iv .i64 (x++z),110)] w2a):=F.out.later hb (nQ _)
 clear hb F G0 G1
 obtain⟨b,eb⟩:∃q9,nX x z=q9:=⟨_,rfl⟩
 have hb:Hid (Dg b):=by show Dg b;rw[←eb];exact nH hx.out hz.out
 have lb:Hid (b.length=16):=hb.out.1
 rw[eb]
 have Eb:Hid _:=eb
 clear eb
 have KA:Hid ((w2a.alloc (.cells (Iv .i64 (aA 16)) 108)).heap[w2a.heap.size]? =some (.cells (Iv .i64 (aA 16)) 108)):=hAN _ _
 go_wp2_with(refine wpPr rfl 108 _ _ rfl w2a.heap.size (Iv .i64 b) rfl rfl _ _ KA.out (aT hb.out.1) (eS hb.out.1) (aG _ _) (fun w2b hP=>sH ?_))
 refine aH ?_
 have F2:=F1.out.newRow hP
 obtain⟨bb,eb⟩:∃x,x=w2a.heap.size:=⟨_,rfl⟩
 have hltbb:w.heap.size≤bb:=by rw[eb];exact F1.out.size
 have nbbwheapsize1:(w.heap.size+1)≠bb:=by rw[eb];exact Nat.ne_of_lt (F1.out.row _ (mC _ mQ)).2.1
 rw[←eb]at F2⊢
 have F:Hid (Rw w [(bb,Iv .i64 b,108),(ba,Iv .i64 a,108),((w.heap.size+1),Iv .i64 (aA 32),110),(w.heap.size,Iv .i64 (x++z),110)] w2b):=F2
 clear F1 F2 hP KA eb
 have G0:Hid _:=(F.out.row _ (mC _ mQ)).2.2
 go_wp2_with(with_reducible refine aJ ?_;first
  | refine wpLr rfl 108 _ rfl ba rfl _ (Iv .i64 a) _ _ G0.out underlying108 rfl (aT la.out) ?_)
 refine(kU a a ha.out ha.out _).mono ?_
 rintro e w3a ⟨rfl,hb⟩
 have F1:Hid (Rw w [(bb,Iv .i64 b,108),(ba,Iv .i64 a,108),((w.heap.size+1),Iv .i64 (aA 32),110),(w.heap.size,Iv .i64 (x++z),110)] w3a):=F.out.later hb (nQ _)
 clear hb F G0
 obtain⟨aa,eaa⟩:∃q9,fI a a=q9:=⟨_,rfl⟩
 have haa:Hid (Dg aa):=by show Dg aa;rw[←eaa];exact gL ha.out ha.out
 have laa:Hid (aa.length=16):=haa.out.1
 rw[eaa]
 have Eaa:Hid _:=eaa
 clear eaa
 have KA:Hid ((w3a.alloc (.cells (Iv .i64 (aA 16)) 108)).heap[w3a.heap.size]? =some (.cells (Iv .i64 (aA 16)) 108)):=hAN _ _
 go_wp2_with(refine wpPr rfl 108 _ _ rfl w3a.heap.size (Iv .i64 aa) rfl rfl _ _ KA.out (aT haa.out.1) (eS haa.out.1) (aG _ _) (fun w3b hP=>sH ?_))
 refine aH ?_
 have F2:=F1.out.newRow hP
 obtain⟨baa,eb⟩:∃x,x=w3a.heap.size:=⟨_,rfl⟩
 have hltbaa:w.heap.size≤baa:=by rw[eb];exact F1.out.size
 have nbaawheapsize1:(w.heap.size+1)≠baa:=by rw[eb];exact Nat.ne_of_lt (F1.out.row _ (mC _ (mC _ mQ))).2.1
 rw[←eb]at F2⊢
 have F:Hid (Rw w [(baa,Iv .i64 aa,108),(bb,Iv .i64 b,108),(ba,Iv .i64 a,108),((w.heap.size+1),Iv .i64 (aA 32),110),(w.heap.size,Iv .i64 (x++z),110)] w3b):=F2
 clear F1 F2 hP KA eb
 have G0:Hid _:=(F.out.row _ (mC _ mQ)).2.2
 go_wp2_with(with_reducible refine aJ ?_;first
  | refine wpLr rfl 108 _ rfl bb rfl _ (Iv .i64 b) _ _ G0.out underlying108 rfl (aT lb.out) ?_)
 refine(kU b b hb.out hb.out _).mono ?_
 rintro e w4a ⟨rfl,hb⟩
 have F1:Hid (Rw w [(baa,Iv .i64 aa,108),(bb,Iv .i64 b,108),(ba,Iv .i64 a,108),((w.heap.size+1),Iv .i64 (aA 32),110),(w.heap.size,Iv .i64 (x++z),110)] w4a):=F.out.later hb (nQ _)
 clear hb F G0
 obtain⟨cc,ecc⟩:∃q9,fI b b=q9:=⟨_,rfl⟩
 have hcc:Hid (Dg cc):=by show Dg cc;rw[←ecc];exact gL hb.out hb.out
 have lcc:Hid (cc.length=16):=hcc.out.1
 rw[ecc]
 have Ecc:Hid _:=ecc
 clear ecc
 have KA:Hid ((w4a.alloc (.cells (Iv .i64 (aA 16)) 108)).heap[w4a.heap.size]? =some (.cells (Iv .i64 (aA 16)) 108)):=hAN _ _
 go_wp2_with(refine wpPr rfl 108 _ _ rfl w4a.heap.size (Iv .i64 cc) rfl rfl _ _ KA.out (aT hcc.out.1) (eS hcc.out.1) (aG _ _) (fun w4b hP=>sH ?_))
 refine aH ?_
 have F2:=F1.out.newRow hP
 obtain⟨bcc,eb⟩:∃x,x=w4a.heap.size:=⟨_,rfl⟩
 have hltbcc:w.heap.size≤bcc:=by rw[eb];exact F1.out.size
 have nbccwheapsize1:(w.heap.size+1)≠bcc:=by rw[eb];exact Nat.ne_of_lt (F1.out.row _ (mC _ (mC _ (mC _ mQ)))).2.1
 rw[←eb]at F2⊢
 have F:Hid (Rw w [(bcc,Iv .i64 cc,108),(baa,Iv .i64 aa,108),(bb,Iv .i64 b,108),(ba,Iv .i64 a,108),((w.heap.size+1),Iv .i64 (aA 32),110),(w.heap.size,Iv .i64 (x++z),110)] w4b):=F2
 clear F1 F2 hP KA eb
 have G0:Hid _:=(F.out.row _ (mC _ mQ)).2.2
 have G1:Hid _:=(F.out.row _ mQ).2.2
 go_wp2_with(with_reducible refine aJ ?_;first
  | refine wpLr rfl 108 _ rfl baa rfl _ (Iv .i64 aa) _ _ G0.out underlying108 rfl (aT laa.out) ?_
  | refine wpLr rfl 108 _ rfl bcc rfl _ (Iv .i64 cc) _ _ G1.out underlying108 rfl (aT lcc.out) ?_)
 refine(zN aa cc haa.out hcc.out _).mono ?_
 rintro e w5a ⟨rfl,hb⟩
 have F1:Hid (Rw w [(bcc,Iv .i64 cc,108),(baa,Iv .i64 aa,108),(bb,Iv .i64 b,108),(ba,Iv .i64 a,108),((w.heap.size+1),Iv .i64 (aA 32),110),(w.heap.size,Iv .i64 (x++z),110)] w5a):=F.out.later hb (nQ _)
 clear hb F G0 G1
 obtain⟨f,ef⟩:∃q9,nX aa cc=q9:=⟨_,rfl⟩
 have hf:Hid (Dg f):=by show Dg f;rw[←ef];exact nH haa.out hcc.out
 have lf:Hid (f.length=16):=hf.out.1
 rw[ef]
 have Ef:Hid _:=ef
 clear ef
 have KA:Hid ((w5a.alloc (.cells (Iv .i64 (aA 16)) 108)).heap[w5a.heap.size]? =some (.cells (Iv .i64 (aA 16)) 108)):=hAN _ _
 go_wp2_with(refine wpPr rfl 108 _ _ rfl w5a.heap.size (Iv .i64 f) rfl rfl _ _ KA.out (aT hf.out.1) (eS hf.out.1) (aG _ _) (fun w5b hP=>sH ?_))
 refine aH ?_
 have F2:=F1.out.newRow hP
 obtain⟨bf,eb⟩:∃x,x=w5a.heap.size:=⟨_,rfl⟩
 have hltbf:w.heap.size≤bf:=by rw[eb];exact F1.out.size
 have nbfwheapsize1:(w.heap.size+1)≠bf:=by rw[eb];exact Nat.ne_of_lt (F1.out.row _ (mC _ (mC _ (mC _ (mC _ mQ))))).2.1
 rw[←eb]at F2⊢
 have F:Hid (Rw w [(bf,Iv .i64 f,108),(bcc,Iv .i64 cc,108),(baa,Iv .i64 aa,108),(bb,Iv .i64 b,108),(ba,Iv .i64 a,108),((w.heap.size+1),Iv .i64 (aA 32),110),(w.heap.size,Iv .i64 (x++z),110)] w5b):=F2
 clear F1 F2 hP KA eb
 have KA:Hid ((w5b.alloc (.cells (Iv .i64 (aA 16)) 107)).heap[w5b.heap.size]? =some (.cells (Iv .i64 (aA 16)) 107)):=hAN _ _
 go_wp2_with(refine wpPr rfl 107 _ _ rfl w5b.heap.size (Iv .i64 (aA 16)) rfl rfl _ _ KA.out yV rfl (aG _ _) (fun Wt hP=>sH ?_))
 refine aH ?_
 have F2:=F.out.newRow hP
 obtain⟨bt,eb⟩:∃x,x=w5b.heap.size:=⟨_,rfl⟩
 have hne:Hid (∀r∈ [(bf,Iv .i64 f,108),(bcc,Iv .i64 cc,108),(baa,Iv .i64 aa,108),(bb,Iv .i64 b,108),(ba,Iv .i64 a,108),((w.heap.size+1),Iv .i64 (aA 32),110),(w.heap.size,Iv .i64 (x++z),110)],r.1≠bt):=by rw[eb];exact fun r hr=>Nat.ne_of_lt (F.out.row r hr).2.1
 rw[←eb]at F2⊢
 rw[←bZ (aA 16) 0 (yR aa f)]at F2
 have F1:Hid (Rw w [(bt,Iv .i64 (pF9 (aA 16) 0 (yR aa f) 0),107),(bf,Iv .i64 f,108),(bcc,Iv .i64 cc,108),(baa,Iv .i64 aa,108),(bb,Iv .i64 b,108),(ba,Iv .i64 a,108),((w.heap.size+1),Iv .i64 (aA 32),110),(w.heap.size,Iv .i64 (x++z),110)] Wt):=F2
 clear F F2 hP KA eb
 go_wp2_with fail
 go_loopw [30] (fun i wr=>∃k:Nat,k≤16∧i=.int .i64 k∧Rw w [(bt,Iv .i64 (pF9 (aA 16) 0 (yR aa f) k),107),(bf,Iv .i64 f,108),(bcc,Iv .i64 cc,108),(baa,Iv .i64 aa,108),(bb,Iv .i64 b,108),(ba,Iv .i64 a,108),((w.heap.size+1),Iv .i64 (aA 32),110),(w.heap.size,Iv .i64 (x++z),110)] wr) (fun i _=>16 - (intOf i).toNat)
 case atStart=>exact⟨0,Nat.zero_le _,rfl,F1.out⟩
 case round=>
  obtain⟨k,hk16,rfl,hF⟩:=hrel
  have F2:Hid _:=hF
  clear hF F1
  by_cases hk:k<16
  ·have hki:(k:Int)<16:=by omega
   have h1:=haa.out.2 k
   have h2:=hf.out.2 k
   have hc1:wr.drew.cell? ⟨baa,k,none⟩=some (.int .i64 (aa.getD k 0)):=aC.cell (show aC wr baa .i64 aa _ from(F2.out.row _ (mC _ (mC _ (mC _ mQ)))).2.2) k (by rw[laa.out];exact hk)
   have hc2:wr.drew.cell? ⟨bf,k,none⟩=some (.int .i64 (f.getD k 0)):=aC.cell (show aC wr bf .i64 f _ from(F2.out.row _ (mC _ mQ)).2.2) k (by rw[lf.out];exact hk)
   obtain⟨v,hv⟩:∃v,wr.drew.cell? ⟨bt,k,none⟩=some v:=⟨_,aC.cell (show aC wr bt .i64 _ _ from(F2.out.row _ mQ).2.2) k (by rw[dC _ _ _ (by rw[hz0.out];exact hk16),hz0.out];exact hk)⟩
   have hfz:wr.drew.frozen? ⟨bt,k,none⟩=false:=frozen_of_row _ _ _ _ _ (F2.out.row _ mQ).2.2
   have HS:Hid ((pF9 (aA 16) 0 (yR aa f) k).set k (aa.getD k 0+121665*f.getD k 0)=pF9 (aA 16) 0 (yR aa f) (k+1)):=by
    have h1:=bJ (aA 16) 0 (yR aa f) k (by rw[hz0.out];omega)
    rw[Nat.zero_add]at h1
    exact h1
   have F3:Hid (Rw w [(bt,Iv .i64 (pF9 (aA 16) 0 (yR aa f) (k+1)),107),(bf,Iv .i64 f,108),(bcc,Iv .i64 cc,108),(baa,Iv .i64 aa,108),(bb,Iv .i64 b,108),(ba,Iv .i64 a,108),((w.heap.size+1),Iv .i64 (aA 32),110),(w.heap.size,Iv .i64 (x++z),110)] (wr.drew.setCell ⟨bt,k,none⟩ (.int .i64 (aa.getD k 0+121665*f.getD k 0)))):=by
    have hP:=fP (F2.out.drew.row _ mQ).2.2 k (.int .i64 (aa.getD k 0+121665*f.getD k 0))
    simp only at hP
    rw[bN,HS.out]at hP
    exact Rw.put F2.out.drew hP hne.out
   generalize aa.getD k 0=z1 at*
   generalize f.getD k 0=z2 at*
   clear F2
   go_wp2
   refine wRh 10 kJ (by kernel_rfl) ?_
   simp only[tU,tJ,dJ,dY]
   repeat(go_big_quiet_step (fail))
   refine wqN ?_
   go_wp2
   go_roundw
   case rel=>exact⟨k+1,by omega,by go_num,F3.out⟩
   case measure=>simp[intOf];omega
  ·obtain rfl:k=16:=by omega
   have ht:Hid (Su (BX aa f)):=KJ aa f haa.out hf.out
   have htd:Hid (Dg (rS (BX aa f))):=RK haa.out hf.out
   have HC:Hid (∀W,_):=fun W=>sR (BX aa f) ht.out W
   have lt1:Hid ((BX aa f).length=16):=ht.out.1
   have F:Hid (Rw w [(bt,Iv .i64 (BX aa f),107),(bf,Iv .i64 f,108),(bcc,Iv .i64 cc,108),(baa,Iv .i64 aa,108),(bb,Iv .i64 b,108),(ba,Iv .i64 a,108),((w.heap.size+1),Iv .i64 (aA 32),110),(w.heap.size,Iv .i64 (x++z),110)] wr):=F2.out
   clear F2
   obtain⟨t,et⟩:∃x,BX aa f=x:=⟨_,rfl⟩
   rw[et]at ht htd HC lt1 F
   have Et:Hid _:=et
   clear et
   go_wp2_with fail
   refine wRt 8 (fun w'=>∃x:yG wr.heap.size wr,w'=x.w) (.held [0,1,3,4] (.tail 2 (.tail 5 (.tail 6 (.tail 7 (.last 8 .done)))))) kJ (by kernel_rfl) ⟨⟨_,bDr (Below.refl _ _) 1⟩,rfl⟩ ?_
   simp only[dP,oS]
   refine wqLr rfl 108 _ rfl baa rfl _ (Iv .i64 aa) _ _ (fun w' hw'=>by obtain⟨x,rfl⟩:=hw';exact(F.out.later x.bel (nQ _)).row _ (mC _ (mC _ (mC _ mQ)))|>.2.2) underlying108 rfl (aT haa.out.1) ?_
   simp only[pS]
   refine wqLr rfl 108 _ rfl bcc rfl _ (Iv .i64 cc) _ _ (fun w' hw'=>by obtain⟨x,rfl⟩:=hw';exact(F.out.later x.bel (nQ _)).row _ (mC _ (mC _ mQ))|>.2.2) underlying108 rfl (aT hcc.out.1) ?_
   simp only[pS]
   refine wqLr rfl 108 _ rfl bf rfl _ (Iv .i64 f) _ _ (fun w' hw'=>by obtain⟨x,rfl⟩:=hw';exact(F.out.later x.bel (nQ _)).row _ (mC _ mQ)|>.2.2) underlying108 rfl (aT hf.out.1) ?_
   simp only[pS]
   refine wqLr rfl 107 _ rfl bt rfl _ (Iv .i64 t) _ _ (fun w' hw'=>by obtain⟨x,rfl⟩:=hw';exact(F.out.later x.bel (nQ _)).row _ mQ|>.2.2) underlying107 rfl (yW lt1.out) ?_
   simp only[pS]
   refine wqN ?_
   go_wp2_with fail
   refine(kU aa cc haa.out hcc.out _).mono ?_
   rintro e z1 ⟨rfl,hb⟩
   have B1:Hid (Below wr.heap.size wr z1):=(bDr (Below.refl wr.heap.size wr) 1).trans hb
   clear hb
   obtain⟨X,eX⟩:∃q9,fI aa cc=q9:=⟨_,rfl⟩
   have hX:Hid (Dg X):=by show Dg X;rw[←eX];exact gL haa.out hcc.out
   rw[eX]
   have EX:Hid _:=eX
   clear eX
   go_wp2_with fail
   refine⟨⟨⟨z1,B1.out⟩,rfl⟩,?_⟩
   go_wp2_with fail
   refine(HC.out   _).mono ?_
   rintro e z2 ⟨rfl,hb⟩
   have B2:Hid (Below wr.heap.size wr z2):=B1.out.trans (hb.mono B1.out.size)
   clear hb B1
   obtain⟨g,eg⟩:∃q9,rS t=q9:=⟨_,rfl⟩
   have hg:Hid (Dg g):=by show Dg g;rw[←eg];exact htd.out
   rw[eg]
   have Eg:Hid _:=eg
   clear eg
   go_wp2_with fail
   refine⟨⟨⟨z2,B2.out⟩,rfl⟩,?_⟩
   go_wp2_with fail
   refine(kU f g hf.out hg.out _).mono ?_
   rintro e z3 ⟨rfl,hb⟩
   have B3:Hid (Below wr.heap.size wr z3):=B2.out.trans (hb.mono B2.out.size)
   clear hb B2
   obtain⟨Z,eZ⟩:∃q9,fI f g=q9:=⟨_,rfl⟩
   have hZ:Hid (Dg Z):=by show Dg Z;rw[←eZ];exact gL hf.out hg.out
   rw[eZ]
   have EZ:Hid _:=eZ
   clear eZ
   go_wp2_with fail
   refine⟨⟨⟨z3,B3.out⟩,rfl⟩,?_⟩
   have hbu:=J8 X Z hX.out.1 hZ.out.1
   have hl32:Hid ((X++Z).length=32):=by show _=_;rw[lQ,hX.out.1,hZ.out.1]
   refine aV rfl 110 _ rfl (Iv .i64 (X++Z)) _ (by kernel_rfl) hbu ?_
   go_wp2_with fail
   refine⟨⟨⟨z3,B3.out⟩,rfl⟩,?_⟩
   clear hbu
   have F9:Hid (Rw w [(bt,Iv .i64 t,107),(bf,Iv .i64 f,108),(bcc,Iv .i64 cc,108),(baa,Iv .i64 aa,108),(bb,Iv .i64 b,108),(ba,Iv .i64 a,108),((w.heap.size+1),Iv .i64 (aA 32),110),(w.heap.size,Iv .i64 (x++z),110)] z3):=F.out.later B3.out (nQ _)
   have G9:Hid _:=(F9.out.row _ (mC _ (mC _ (mC _ (mC _ (mC _ (mC _ mQ))))))).2.2
   have BW:Hid _:=F9.out.bel
   clear F9 F B3
   go_wp2_with(refine wpPr rfl 110 _ _ rfl (w.heap.size+1) (Iv .i64 (X++Z)) rfl rfl _ _ G9.out (dE hl32.out) (kF hl32.out) (aG _ _) (fun Z9 hP=>sH ?_))
   refine aH ?_
   refine m6 ?_
   have B9:=hP.below _ _ BW.out (by omega)
   have K9:=hP.here
   clear hP G9 BW
   have hv:Hid (oM x z++oO x z=X++Z):=by show _=_;unfold oM oO RH;rw[Ea.out,Eb.out,Eaa.out,Ecc.out,Ef.out,Et.out,EX.out,Eg.out,EZ.out]
   obtain⟨r,er⟩:∃x,X++Z=x:=⟨_,rfl⟩
   rw[er]at K9 hl32 hv
   clear er
   go_wp2
   exact bodyPost_ret (v:=.agg (Iv .i64 r)) (results_cell_row rfl _ _ _ _ (Iv .i64 r) _ _ rfl K9 underlying110 rfl (dE hl32.out)) rfl ⟨by rw[hv.out],B9⟩
theorem iP {P:Program} {fn:Func} {p q:Tmp} {ty tz:TypeId} (h:fn.results=#[.cell p ty,.cell q tz]) (tmps:Array Value) (w:World) (g g2:Nat) (t t2:TypeId) (cs cs2:Array Value) (d d2:TypeDesc)
 (hp:tmps.getD p undef=.pointer (some ⟨g,0,none⟩)) (hq:tmps.getD q undef=.pointer (some ⟨g2,0,none⟩)) (hg:w.heap[g]? =some (.cells cs t)) (hg2:w.heap[g2]? =some (.cells cs2 t2))
 (hu:P.underlying ty=some d) (hd:(match d with| .struct _| .array _ _=>true|_=>false)=true) (hi:(P.info? ty).map (·.size)=some cs.size)
 (hu2:P.underlying tz=some d2) (hd2:(match d2 with| .struct _| .array _ _=>true|_=>false)=true) (hi2:(P.info? tz).map (·.size)=some cs2.size):
 (results fn tmps).run P w=.ok (.tuple #[.agg cs,.agg cs2]) w:=by
 have hp':tmps[p]?.getD undef=.pointer (some ⟨g,0,none⟩):=by simpa using hp
 have hq':tmps[q]?.getD undef=.pointer (some ⟨g2,0,none⟩):=by simpa using hq
 simp[results,h,hp',hq',asAddr,run_loadVar_row w g t ty cs _ d hg hu hd hi,run_loadVar_row w g2 t2 tz cs2 _ d2 hg2 hu2 hd2 hi2]
theorem bT {P:Program} {ops:Array Oper} {C:World→Prop} {Q:Act→Prop} {a:Act} {o:Oper} {rest:List Oper} (hg:o.guard=none) (t:TypeId) (parts:Array (Nat×Operand)) (ho:o.op=.build t parts) (R:Array Value)
 (ps:List (Nat×Value)) (hp:(parts.map fun(i,x)=>(i,a.eval x)).toList=ps) (hb:P.built t ps=some R) (h:wpQuiet P ops C Q rest (a.put o.dst (.agg R))):wpQuiet P ops C Q (o::rest) a:=by
 refine aB hg (.agg R) (fun w=>?_) h
 have hc:P.built t (parts.map fun(i,x)=>(i,a.eval x)).toList=some R:=by rw[hp,hb]
 unfold execOp
 simp only[ho,Sem.run_bind,run_build w t _ R hc,Result.andThen_ok,Sem.run_pure]
theorem Rw.past {w0 W W':World} {R:List (Nat×Array Value×TypeId)} {b:Nat} {cs':Array Value} {t:TypeId} (h:Rw w0 R W) (hP:wH W b cs' t W') (hb:w0.heap.size≤b) (hne:∀r∈R,r.1≠b):Rw w0 R W':=
 ⟨hP.below _ _ h.bel hb,fun r hr=>⟨(h.row r hr).1,by rw[hP.size];exact(h.row r hr).2.1,(hP.far _ (hne r hr)).trans (h.row r hr).2.2⟩⟩
structure fZ where
 x1:List Int
 z1:List Int
 x2:List Int
 z2:List Int
def cU (l u:List Int):Nat→fZ
 | 0=>⟨iJ 1,aA 16,u,iJ 1⟩
 | m+1=>
   let s:=cU l u m
   if mP l (254 - m)=1 then⟨sK s.x1 s.z1 s.x2 s.z2,sL s.x1 s.z1 s.x2 s.z2 u,oM s.x2 s.z2,oO s.x2 s.z2⟩
   else⟨oM s.x1 s.z1,oO s.x1 s.z1,sK s.x1 s.z1 s.x2 s.z2,sL s.x1 s.z1 s.x2 s.z2 u⟩
theorem kL.zero:kL (aA 16) 0:=by
 have h:=kL.small 0 (by decide)
 exact h
theorem FL (l u:List Int) (x:Int) (hu:kL u x):∀m,kL (cU l u m).x1 (mS (fun n=>decide (mP l n=1)) x m).x1∧kL (cU l u m).z1 (mS (fun n=>decide (mP l n=1)) x m).z1∧kL (cU l u m).x2 (mS (fun n=>decide (mP l n=1)) x m).x2∧kL (cU l u m).z2 (mS (fun n=>decide (mP l n=1)) x m).z2
 | 0=>⟨kL.small 1 (by decide),kL.zero,hu,kL.small 1 (by decide)⟩
 | m+1=>by
   obtain⟨h1,h2,h3,h4⟩:=FL l u x hu m
   unfold cU mS
   by_cases h:mP l (254 - m)=1
   ·simp only[h,decide_true,if_true]
    exact⟨h1.sumX h2 h3 h4,h1.sumZ h2 h3 h4 hu,h3.dblX h4,h3.dblZ h4⟩
   ·simp only[h,decide_false,Bool.false_eq_true,if_false]
    exact⟨h1.dblX h2,h1.dblZ h2,h1.sumX h2 h3 h4,h1.sumZ h2 h3 h4 hu⟩
def xR (q:fZ):List Int:=q.x1++q.z1
def tK (q:fZ):List Int:=q.x2++q.z2
theorem WY:prog.built 110 [(0,.agg (Iv .i64 (iJ 1)))]=some (Iv .i64 (iJ 1++aA 16)):=by kernel_rfl
set_option maxRecDepth 10000 in
set_option maxHeartbeats 4000000 in
theorem VF (l u:List Int) (hl:l.length=32) (hu:Dg u) (w:World):
 Calls prog 54 #[.agg (Iv .u8 l),.int .i64 255,.agg (Iv .i64 u)] w fun e w'=>e=.returned (.tuple #[.agg (Iv .i64 (xR (cU l u 0))),.agg (Iv .i64 (tK (cU l u 0)))])∧Below w.heap.size w w':=by
 have hzp:=GD
 have lu:Hid (u.length=16):=hu.1
 have ls:Hid ((iJ 1).length=16):=rfl
 obtain⟨W,hW,g0,g1,g2,g3,hsz,hBe⟩:=qZ w (.cells (Iv .u8 l) 22) (.cells (Iv .i64 u) 108) (.cells (Iv .i64 (aA 32)) 110) (.cells (Iv .i64 (aA 32)) 110)
 have F0:Hid (Rw w [(w.heap.size+1+1+1,Iv .i64 (aA 32),110),(w.heap.size+1+1,Iv .i64 (aA 32),110),(w.heap.size+1,Iv .i64 u,108)] W):=
  ⟨hBe,fun r hr=>by
   simp only[List.mem_cons,nY,or_false]at hr
   rcases hr with rfl|rfl|rfl
   ·exact⟨by simp only;omega,by simp only;omega,g3⟩
   ·exact⟨by simp only;omega,by simp only;omega,g2⟩
   ·exact⟨by simp only;omega,by simp only;omega,g1⟩⟩
 have HW:Hid _:=hW
 clear hW g0 g1 g2 g3 hsz hBe hu
 go_enter func54,ntmps54
 go_wp2_with fail
 rw[HW.out]
 have FD:Hid _:=F0.out.drew
 refine wRt 6 (fun w'=>∃x:Wp (fun v=>Rw w [(w.heap.size+1,Iv .i64 u,108)] v),w'=x.w) (.held [2] (.tail 0 (.held [1] (.tail 3 (.held [4] (.tail 5 (.last 6 .done))))))) kJ (by kernel_rfl) ⟨⟨_,F0.out.drew.sub (fun r hr=>by simp only[List.mem_cons,nY,or_false]at hr⊢;subst hr;simp)⟩,rfl⟩ ?_
 simp only[dP,oS]
 refine wqLr rfl 108 _ rfl (w.heap.size+1) rfl _ (Iv .i64 u) _ _ (fun w' hw'=>by obtain⟨x,rfl⟩:=hw';exact(x.p.row _ mQ).2.2) underlying108 rfl (aT lu.out) ?_
 simp only[pS]
 refine wqN ?_
 go_wp2_with fail
 refine(AF 1 (by decide) _).mono ?_
 rintro e w1 ⟨rfl,hb⟩
 have F1:Hid (Rw w [(w.heap.size+1+1+1,Iv .i64 (aA 32),110),(w.heap.size+1+1,Iv .i64 (aA 32),110),(w.heap.size+1,Iv .i64 u,108)] w1):=FD.out.later hb (nQ _)
 clear hb F0 FD HW
 go_wp2_with fail
 refine⟨⟨⟨_,F1.out.sub (fun r hr=>by simp only[List.mem_cons,nY,or_false]at hr⊢;subst hr;simp)⟩,rfl⟩,?_⟩
 refine bT rfl 110 _ rfl (Iv .i64 (iJ 1++aA 16)) _ (by kernel_rfl) WY ?_
 simp only[pS]
 refine wqN ?_
 go_wp2_with fail
 refine(AF 1 (by decide) _).mono ?_
 rintro e w2 ⟨rfl,hb⟩
 have F2:Hid (Rw w [(w.heap.size+1+1+1,Iv .i64 (aA 32),110),(w.heap.size+1+1,Iv .i64 (aA 32),110),(w.heap.size+1,Iv .i64 u,108)] w2):=F1.out.later hb (nQ _)
 clear hb F1
 go_wp2_with fail
 refine⟨⟨⟨_,F2.out.sub (fun r hr=>by simp only[List.mem_cons,nY,or_false]at hr⊢;subst hr;simp)⟩,rfl⟩,?_⟩
 refine bT rfl 110 _ rfl (Iv .i64 (u++iJ 1)) _ (by kernel_rfl) (J8 u (iJ 1) lu.out ls.out) ?_
 simp only[pS]
 refine wqN ?_
 have G2:Hid (w2.heap[w.heap.size+1+1]? =some (.cells (Iv .i64 (aA 32)) 110)):=(F2.out.row _ (mC _ mQ)).2.2
 have l1:Hid ((iJ 1++aA 16).length=32):=rfl
 have l2:Hid ((u++iJ 1).length=32):=by show _=_;rw[lQ,lu.out,ls.out]
 go_wp2_with(refine wpPr rfl 110 _ _ rfl (w.heap.size+1+1) (Iv .i64 (iJ 1++aA 16)) rfl rfl _ _ G2.out (dE l1.out) (kF l1.out) (aG _ _) (fun w3 hP=>sH ?_))
 refine aH ?_
 have F3:Hid (Rw w [(w.heap.size+1+1+1,Iv .i64 (aA 32),110),(w.heap.size+1,Iv .i64 u,108)] w3):=
  (F2.out.sub (R':=[(w.heap.size+1+1+1,Iv .i64 (aA 32),110),(w.heap.size+1,Iv .i64 u,108)]) (fun r hr=>by simp only[List.mem_cons,nY,or_false]at hr⊢;rcases hr with rfl|rfl<;>simp)).past hP (by omega) (fun r hr=>by simp only[List.mem_cons,nY,or_false]at hr;rcases hr with rfl|rfl<;>(simp only;omega))
 have K2:Hid _:=hP.here
 clear hP F2 G2
 go_wp2_with fail
 refine⟨⟨⟨_,F3.out.sub (fun r hr=>by simp only[List.mem_cons,nY,or_false]at hr⊢;subst hr;simp)⟩,rfl⟩,?_⟩
 have G3:Hid (w3.heap[w.heap.size+1+1+1]? =some (.cells (Iv .i64 (aA 32)) 110)):=(F3.out.row _ mQ).2.2
 go_wp2_with(refine wpPr rfl 110 _ _ rfl (w.heap.size+1+1+1) (Iv .i64 (u++iJ 1)) rfl rfl _ _ G3.out (dE l2.out) (kF l2.out) (aG _ _) (fun w4 hP=>sH ?_))
 refine aH ?_
 refine m6 ?_
 have K4:=(hP.far (w.heap.size+1+1) (by omega)).trans K2.out
 have K5:=hP.here
 have B9:=hP.below _ _ F3.out.bel (by omega)
 have e1:Hid (xR (cU l u 0)=iJ 1++aA 16):=rfl
 have e2:Hid (tK (cU l u 0)=u++iJ 1):=rfl
 clear hP F3 G3 K2
 generalize iJ 1++aA 16=r1 at*
 generalize u++iJ 1=r2 at*
 go_wp2
 exact bodyPost_ret (v:=.tuple #[.agg (Iv .i64 r1),.agg (Iv .i64 r2)]) (iP rfl _ _ _ _ _ _ (Iv .i64 r1) (Iv .i64 r2) _ _ rfl rfl K4 K5 underlying110 rfl (dE l1.out) underlying110 rfl (dE l2.out)) rfl ⟨by rw[e1.out,e2.out],B9⟩
end Go.Proofs.YtgcepckaolkeoaaGreatDoor
