import Derived.Test.YtgcepckaolkeoaaGreatDoorMZ31
namespace Go.Proofs.YtgcepckaolkeoaaGreatDoor
open Go.RowKit
open Go.Proofs.Tryz
open Go renaming heap_alloc_new → hAN, wpList_load_row → wpLr, wpQuiet_nil → wqN
open List renaming length_append → lQ, mem_cons_of_mem → mC, mem_cons_self → mQ, not_mem_nil → nY
open Nat renaming le_refl → nQ
set_option linter.unusedVariables false
set_option maxRecDepth 100000 in
set_option maxHeartbeats 8000000 in
theorem YS (px pz qx qz u:List Int) (Hpx:Dg px) (Hpz:Dg pz) (Hqx:Dg qx) (Hqz:Dg qz) (Hu:Dg u) (w:World):
 Calls prog 76 #[.agg (Iv .i64 (px++pz)),.agg (Iv .i64 (qx++qz)),.agg (Iv .i64 u)] w fun e w'=>e=.returned (.agg (Iv .i64 (rH px pz qx qz++rI px pz qx qz u)))∧Below w.heap.size w w':=by
 have hpx:Hid (Dg px):=Hpx
 have lpx:Hid (px.length=16):=Hpx.1
 have hpz:Hid (Dg pz):=Hpz
 have lpz:Hid (pz.length=16):=Hpz.1
 have hqx:Hid (Dg qx):=Hqx
 have lqx:Hid (qx.length=16):=Hqx.1
 have hqz:Hid (Dg qz):=Hqz
 have lqz:Hid (qz.length=16):=Hqz.1
 have hu:Hid (Dg u):=Hu
 have lu:Hid (u.length=16):=Hu.1
 clear Hpx Hpz Hqx Hqz Hu
 have hzl:=sR
 have hzp:=D9
 obtain⟨W,hW,g0,g1,g2,g3,hsz,hBe⟩:=qJ w (.cells (Iv .i64 (px++pz)) 110) (.cells (Iv .i64 (qx++qz)) 110) (.cells (Iv .i64 u) 108) (.cells (Iv .i64 (aA 32)) 110)
 have F:Hid (Rw w [((w.heap.size+1+1+1),Iv .i64 (aA 32),110),((w.heap.size+1+1),Iv .i64 u,108),((w.heap.size+1),Iv .i64 (qx++qz),110),(w.heap.size,Iv .i64 (px++pz),110)] W):=
  ⟨hBe,fun r hr=>by
   simp only[List.mem_cons,nY,or_false]at hr
   rcases hr with rfl|rfl|rfl|rfl
   ·exact⟨by simp only;omega,by simp only;omega,g3⟩
   ·exact⟨by simp only;omega,by simp only;omega,g2⟩
   ·exact⟨by simp only;omega,by simp only;omega,g1⟩
   ·exact⟨by simp only;omega,by simp only;omega,g0⟩⟩
 have HW:Hid _:=hW
 clear hW g0 g1 g2 g3 hBe hsz
 go_enter func76,ntmps76
 have G0:Hid (((((w.alloc (.cells (Iv .i64 (px++pz)) 110)).alloc (.cells (Iv .i64 (qx++qz)) 110)).alloc (.cells (Iv .i64 u) 108)).alloc (.cells (Iv .i64 (aA 32)) 110)).heap[w.heap.size]? =some (.cells (Iv .i64 (px++pz)) 110)):=by show _=_;rw[HW.out];exact(F.out.row _ (mC _ (mC _ (mC _ mQ)))).2.2
 have G1:Hid (((((w.alloc (.cells (Iv .i64 (px++pz)) 110)).alloc (.cells (Iv .i64 (qx++qz)) 110)).alloc (.cells (Iv .i64 u) 108)).alloc (.cells (Iv .i64 (aA 32)) 110)).heap[w.heap.size]? =some (.cells (Iv .i64 (px++pz)) 110)):=by show _=_;rw[HW.out];exact(F.out.row _ (mC _ (mC _ (mC _ mQ)))).2.2
 go_wp2_with(with_reducible refine aI ?_;first
  | refine wpList_load_mid rfl 108 _ rfl w.heap.size 0 rfl (px.map (Value.int .i64)) _ (gS G0.out) underlying108 rfl (jJ lpx.out) ?_
  | refine wpList_load_mid rfl 108 _ rfl w.heap.size 16 rfl (pz.map (Value.int .i64)) _ (gT 16 lpx.out G1.out) underlying108 rfl (jJ lpz.out) ?_)
 refine(xE px pz hpx.out hpz.out _).mono ?_
 rintro e w1a ⟨rfl,hb⟩
 rw[HW.out]at hb
 clear HW
 have F1:Hid (Rw w [((w.heap.size+1+1+1),Iv .i64 (aA 32),110),((w.heap.size+1+1),Iv .i64 u,108),((w.heap.size+1),Iv .i64 (qx++qz),110),(w.heap.size,Iv .i64 (px++pz),110)] w1a):=F.out.later hb (nQ _)
 clear hb F G0 G1
 obtain⟨a,ea⟩:∃q9,nG px pz=q9:=⟨_,rfl⟩
 have ha:Hid (Dg a):=by show Dg a;rw[←ea];exact pZ hpx.out hpz.out
 have la:Hid (a.length=16):=ha.out.1
 rw[ea]
 have Ea:Hid _:=ea
 clear ea
 have KA:Hid ((w1a.alloc (.cells (Iv .i64 (aA 16)) 108)).heap[w1a.heap.size]? =some (.cells (Iv .i64 (aA 16)) 108)):=hAN _ _
 go_wp2_with(refine wpPr rfl 108 _ _ rfl w1a.heap.size (Iv .i64 a) rfl rfl _ _ KA.out (aU ha.out.1) (eT ha.out.1) (aH _ _) (fun w1b hP=>sH ?_))
 refine aG ?_
 have F2:=F1.out.newRow hP
 obtain⟨ba,eb⟩:∃x,x=w1a.heap.size:=⟨_,rfl⟩
 have hltba:w.heap.size≤ba:=by rw[eb];exact F1.out.size
 have nbawheapsize111:(w.heap.size+1+1+1)≠ba:=by rw[eb];exact Nat.ne_of_lt (F1.out.row _ mQ).2.1
 rw[←eb]at F2⊢
 have F:Hid (Rw w [(ba,Iv .i64 a,108),((w.heap.size+1+1+1),Iv .i64 (aA 32),110),((w.heap.size+1+1),Iv .i64 u,108),((w.heap.size+1),Iv .i64 (qx++qz),110),(w.heap.size,Iv .i64 (px++pz),110)] w1b):=F2
 clear F1 F2 hP KA eb
 have G0:Hid _:=(F.out.row _ (mC _ (mC _ (mC _ (mC _ mQ))))).2.2
 have G1:Hid _:=(F.out.row _ (mC _ (mC _ (mC _ (mC _ mQ))))).2.2
 go_wp2_with(with_reducible refine aI ?_;first
  | refine wpList_load_mid rfl 108 _ rfl w.heap.size 0 rfl (px.map (Value.int .i64)) _ (gS G0.out) underlying108 rfl (jJ lpx.out) ?_
  | refine wpList_load_mid rfl 108 _ rfl w.heap.size 16 rfl (pz.map (Value.int .i64)) _ (gT 16 lpx.out G1.out) underlying108 rfl (jJ lpz.out) ?_)
 refine(yM px pz hpx.out hpz.out _).mono ?_
 rintro e w2a ⟨rfl,hb⟩
 have F1:Hid (Rw w [(ba,Iv .i64 a,108),((w.heap.size+1+1+1),Iv .i64 (aA 32),110),((w.heap.size+1+1),Iv .i64 u,108),((w.heap.size+1),Iv .i64 (qx++qz),110),(w.heap.size,Iv .i64 (px++pz),110)] w2a):=F.out.later hb (nQ _)
 clear hb F G0 G1
 obtain⟨b,eb⟩:∃q9,nN px pz=q9:=⟨_,rfl⟩
 have hb:Hid (Dg b):=by show Dg b;rw[←eb];exact m8 hpx.out hpz.out
 have lb:Hid (b.length=16):=hb.out.1
 rw[eb]
 have Eb:Hid _:=eb
 clear eb
 have KA:Hid ((w2a.alloc (.cells (Iv .i64 (aA 16)) 108)).heap[w2a.heap.size]? =some (.cells (Iv .i64 (aA 16)) 108)):=hAN _ _
 go_wp2_with(refine wpPr rfl 108 _ _ rfl w2a.heap.size (Iv .i64 b) rfl rfl _ _ KA.out (aU hb.out.1) (eT hb.out.1) (aH _ _) (fun w2b hP=>sH ?_))
 refine aG ?_
 have F2:=F1.out.newRow hP
 obtain⟨bb,eb⟩:∃x,x=w2a.heap.size:=⟨_,rfl⟩
 have hltbb:w.heap.size≤bb:=by rw[eb];exact F1.out.size
 have nbbwheapsize111:(w.heap.size+1+1+1)≠bb:=by rw[eb];exact Nat.ne_of_lt (F1.out.row _ (mC _ mQ)).2.1
 rw[←eb]at F2⊢
 have F:Hid (Rw w [(bb,Iv .i64 b,108),(ba,Iv .i64 a,108),((w.heap.size+1+1+1),Iv .i64 (aA 32),110),((w.heap.size+1+1),Iv .i64 u,108),((w.heap.size+1),Iv .i64 (qx++qz),110),(w.heap.size,Iv .i64 (px++pz),110)] w2b):=F2
 clear F1 F2 hP KA eb
 have G0:Hid _:=(F.out.row _ (mC _ (mC _ (mC _ (mC _ mQ))))).2.2
 have G1:Hid _:=(F.out.row _ (mC _ (mC _ (mC _ (mC _ mQ))))).2.2
 go_wp2_with(with_reducible refine aI ?_;first
  | refine wpList_load_mid rfl 108 _ rfl (w.heap.size+1) 0 rfl (qx.map (Value.int .i64)) _ (gS G0.out) underlying108 rfl (jJ lqx.out) ?_
  | refine wpList_load_mid rfl 108 _ rfl (w.heap.size+1) 16 rfl (qz.map (Value.int .i64)) _ (gT 16 lqx.out G1.out) underlying108 rfl (jJ lqz.out) ?_)
 refine(xE qx qz hqx.out hqz.out _).mono ?_
 rintro e w3a ⟨rfl,hb⟩
 have F1:Hid (Rw w [(bb,Iv .i64 b,108),(ba,Iv .i64 a,108),((w.heap.size+1+1+1),Iv .i64 (aA 32),110),((w.heap.size+1+1),Iv .i64 u,108),((w.heap.size+1),Iv .i64 (qx++qz),110),(w.heap.size,Iv .i64 (px++pz),110)] w3a):=F.out.later hb (nQ _)
 clear hb F G0 G1
 obtain⟨c,ec⟩:∃q9,nG qx qz=q9:=⟨_,rfl⟩
 have hc:Hid (Dg c):=by show Dg c;rw[←ec];exact pZ hqx.out hqz.out
 have lc:Hid (c.length=16):=hc.out.1
 rw[ec]
 have Ec:Hid _:=ec
 clear ec
 have KA:Hid ((w3a.alloc (.cells (Iv .i64 (aA 16)) 108)).heap[w3a.heap.size]? =some (.cells (Iv .i64 (aA 16)) 108)):=hAN _ _
 go_wp2_with(refine wpPr rfl 108 _ _ rfl w3a.heap.size (Iv .i64 c) rfl rfl _ _ KA.out (aU hc.out.1) (eT hc.out.1) (aH _ _) (fun w3b hP=>sH ?_))
 refine aG ?_
 have F2:=F1.out.newRow hP
 obtain⟨bc,eb⟩:∃x,x=w3a.heap.size:=⟨_,rfl⟩
 have hltbc:w.heap.size≤bc:=by rw[eb];exact F1.out.size
 have nbcwheapsize111:(w.heap.size+1+1+1)≠bc:=by rw[eb];exact Nat.ne_of_lt (F1.out.row _ (mC _ (mC _ mQ))).2.1
 rw[←eb]at F2⊢
 have F:Hid (Rw w [(bc,Iv .i64 c,108),(bb,Iv .i64 b,108),(ba,Iv .i64 a,108),((w.heap.size+1+1+1),Iv .i64 (aA 32),110),((w.heap.size+1+1),Iv .i64 u,108),((w.heap.size+1),Iv .i64 (qx++qz),110),(w.heap.size,Iv .i64 (px++pz),110)] w3b):=F2
 clear F1 F2 hP KA eb
 have G0:Hid _:=(F.out.row _ (mC _ (mC _ (mC _ (mC _ (mC _ mQ)))))).2.2
 have G1:Hid _:=(F.out.row _ (mC _ (mC _ (mC _ (mC _ (mC _ mQ)))))).2.2
 go_wp2_with(with_reducible refine aI ?_;first
  | refine wpList_load_mid rfl 108 _ rfl (w.heap.size+1) 0 rfl (qx.map (Value.int .i64)) _ (gS G0.out) underlying108 rfl (jJ lqx.out) ?_
  | refine wpList_load_mid rfl 108 _ rfl (w.heap.size+1) 16 rfl (qz.map (Value.int .i64)) _ (gT 16 lqx.out G1.out) underlying108 rfl (jJ lqz.out) ?_)
 refine(yM qx qz hqx.out hqz.out _).mono ?_
 rintro e w4a ⟨rfl,hb⟩
 have F1:Hid (Rw w [(bc,Iv .i64 c,108),(bb,Iv .i64 b,108),(ba,Iv .i64 a,108),((w.heap.size+1+1+1),Iv .i64 (aA 32),110),((w.heap.size+1+1),Iv .i64 u,108),((w.heap.size+1),Iv .i64 (qx++qz),110),(w.heap.size,Iv .i64 (px++pz),110)] w4a):=F.out.later hb (nQ _)
 clear hb F G0 G1
 obtain⟨d,ed⟩:∃q9,nN qx qz=q9:=⟨_,rfl⟩
 have hd:Hid (Dg d):=by show Dg d;rw[←ed];exact m8 hqx.out hqz.out
 have ld:Hid (d.length=16):=hd.out.1
 rw[ed]
 have Ed:Hid _:=ed
 clear ed
 have KA:Hid ((w4a.alloc (.cells (Iv .i64 (aA 16)) 108)).heap[w4a.heap.size]? =some (.cells (Iv .i64 (aA 16)) 108)):=hAN _ _
 go_wp2_with(refine wpPr rfl 108 _ _ rfl w4a.heap.size (Iv .i64 d) rfl rfl _ _ KA.out (aU hd.out.1) (eT hd.out.1) (aH _ _) (fun w4b hP=>sH ?_))
 refine aG ?_
 have F2:=F1.out.newRow hP
 obtain⟨bd,eb⟩:∃x,x=w4a.heap.size:=⟨_,rfl⟩
 have hltbd:w.heap.size≤bd:=by rw[eb];exact F1.out.size
 have nbdwheapsize111:(w.heap.size+1+1+1)≠bd:=by rw[eb];exact Nat.ne_of_lt (F1.out.row _ (mC _ (mC _ (mC _ mQ)))).2.1
 rw[←eb]at F2⊢
 have F:Hid (Rw w [(bd,Iv .i64 d,108),(bc,Iv .i64 c,108),(bb,Iv .i64 b,108),(ba,Iv .i64 a,108),((w.heap.size+1+1+1),Iv .i64 (aA 32),110),((w.heap.size+1+1),Iv .i64 u,108),((w.heap.size+1),Iv .i64 (qx++qz),110),(w.heap.size,Iv .i64 (px++pz),110)] w4b):=F2
 clear F1 F2 hP KA eb
 have G0:Hid _:=(F.out.row _ mQ).2.2
 have G1:Hid _:=(F.out.row _ (mC _ (mC _ (mC _ mQ)))).2.2
 go_wp2_with(with_reducible refine aI ?_;first
  | refine wpLr rfl 108 _ rfl bd rfl _ (Iv .i64 d) _ _ G0.out underlying108 rfl (aU ld.out) ?_
  | refine wpLr rfl 108 _ rfl ba rfl _ (Iv .i64 a) _ _ G1.out underlying108 rfl (aU la.out) ?_)
 refine(kQ d a hd.out ha.out _).mono ?_
 rintro e w5a ⟨rfl,hb⟩
 have F1:Hid (Rw w [(bd,Iv .i64 d,108),(bc,Iv .i64 c,108),(bb,Iv .i64 b,108),(ba,Iv .i64 a,108),((w.heap.size+1+1+1),Iv .i64 (aA 32),110),((w.heap.size+1+1),Iv .i64 u,108),((w.heap.size+1),Iv .i64 (qx++qz),110),(w.heap.size,Iv .i64 (px++pz),110)] w5a):=F.out.later hb (nQ _)
 clear hb F G0 G1
 obtain⟨da,eda⟩:∃q9,fH d a=q9:=⟨_,rfl⟩
 have hda:Hid (Dg da):=by show Dg da;rw[←eda];exact gH hd.out ha.out
 have lda:Hid (da.length=16):=hda.out.1
 rw[eda]
 have Eda:Hid _:=eda
 clear eda
 have KA:Hid ((w5a.alloc (.cells (Iv .i64 (aA 16)) 108)).heap[w5a.heap.size]? =some (.cells (Iv .i64 (aA 16)) 108)):=hAN _ _
 go_wp2_with(refine wpPr rfl 108 _ _ rfl w5a.heap.size (Iv .i64 da) rfl rfl _ _ KA.out (aU hda.out.1) (eT hda.out.1) (aH _ _) (fun w5b hP=>sH ?_))
 refine aG ?_
 have F2:=F1.out.newRow hP
 obtain⟨bda,eb⟩:∃x,x=w5a.heap.size:=⟨_,rfl⟩
 have hltbda:w.heap.size≤bda:=by rw[eb];exact F1.out.size
 have nbdawheapsize111:(w.heap.size+1+1+1)≠bda:=by rw[eb];exact Nat.ne_of_lt (F1.out.row _ (mC _ (mC _ (mC _ (mC _ mQ))))).2.1
 rw[←eb]at F2⊢
 have F:Hid (Rw w [(bda,Iv .i64 da,108),(bd,Iv .i64 d,108),(bc,Iv .i64 c,108),(bb,Iv .i64 b,108),(ba,Iv .i64 a,108),((w.heap.size+1+1+1),Iv .i64 (aA 32),110),((w.heap.size+1+1),Iv .i64 u,108),((w.heap.size+1),Iv .i64 (qx++qz),110),(w.heap.size,Iv .i64 (px++pz),110)] w5b):=F2
 clear F1 F2 hP KA eb
 have G0:Hid _:=(F.out.row _ (mC _ (mC _ mQ))).2.2
 have G1:Hid _:=(F.out.row _ (mC _ (mC _ (mC _ mQ)))).2.2
 go_wp2_with(with_reducible refine aI ?_;first
  | refine wpLr rfl 108 _ rfl bc rfl _ (Iv .i64 c) _ _ G0.out underlying108 rfl (aU lc.out) ?_
  | refine wpLr rfl 108 _ rfl bb rfl _ (Iv .i64 b) _ _ G1.out underlying108 rfl (aU lb.out) ?_)
 refine(kQ c b hc.out hb.out _).mono ?_
 rintro e w6a ⟨rfl,hb⟩
 have F1:Hid (Rw w [(bda,Iv .i64 da,108),(bd,Iv .i64 d,108),(bc,Iv .i64 c,108),(bb,Iv .i64 b,108),(ba,Iv .i64 a,108),((w.heap.size+1+1+1),Iv .i64 (aA 32),110),((w.heap.size+1+1),Iv .i64 u,108),((w.heap.size+1),Iv .i64 (qx++qz),110),(w.heap.size,Iv .i64 (px++pz),110)] w6a):=F.out.later hb (nQ _)
 clear hb F G0 G1
 obtain⟨cb,ecb⟩:∃q9,fH c b=q9:=⟨_,rfl⟩
 have hcb:Hid (Dg cb):=by show Dg cb;rw[←ecb];exact gH hc.out hb.out
 have lcb:Hid (cb.length=16):=hcb.out.1
 rw[ecb]
 have Ecb:Hid _:=ecb
 clear ecb
 have KA:Hid ((w6a.alloc (.cells (Iv .i64 (aA 16)) 108)).heap[w6a.heap.size]? =some (.cells (Iv .i64 (aA 16)) 108)):=hAN _ _
 go_wp2_with(refine wpPr rfl 108 _ _ rfl w6a.heap.size (Iv .i64 cb) rfl rfl _ _ KA.out (aU hcb.out.1) (eT hcb.out.1) (aH _ _) (fun w6b hP=>sH ?_))
 refine aG ?_
 have F2:=F1.out.newRow hP
 obtain⟨bcb,eb⟩:∃x,x=w6a.heap.size:=⟨_,rfl⟩
 have hltbcb:w.heap.size≤bcb:=by rw[eb];exact F1.out.size
 have nbcbwheapsize111:(w.heap.size+1+1+1)≠bcb:=by rw[eb];exact Nat.ne_of_lt (F1.out.row _ (mC _ (mC _ (mC _ (mC _ (mC _ mQ)))))).2.1
 rw[←eb]at F2⊢
 have F:Hid (Rw w [(bcb,Iv .i64 cb,108),(bda,Iv .i64 da,108),(bd,Iv .i64 d,108),(bc,Iv .i64 c,108),(bb,Iv .i64 b,108),(ba,Iv .i64 a,108),((w.heap.size+1+1+1),Iv .i64 (aA 32),110),((w.heap.size+1+1),Iv .i64 u,108),((w.heap.size+1),Iv .i64 (qx++qz),110),(w.heap.size,Iv .i64 (px++pz),110)] w6b):=F2
 clear F1 F2 hP KA eb
 have G0:Hid _:=(F.out.row _ (mC _ mQ)).2.2
 have G1:Hid _:=(F.out.row _ mQ).2.2
 go_wp2_with(with_reducible refine aI ?_;first
  | refine wpLr rfl 108 _ rfl bda rfl _ (Iv .i64 da) _ _ G0.out underlying108 rfl (aU lda.out) ?_
  | refine wpLr rfl 108 _ rfl bcb rfl _ (Iv .i64 cb) _ _ G1.out underlying108 rfl (aU lcb.out) ?_)
 refine(xE da cb hda.out hcb.out _).mono ?_
 rintro e w7a ⟨rfl,hb⟩
 have F1:Hid (Rw w [(bcb,Iv .i64 cb,108),(bda,Iv .i64 da,108),(bd,Iv .i64 d,108),(bc,Iv .i64 c,108),(bb,Iv .i64 b,108),(ba,Iv .i64 a,108),((w.heap.size+1+1+1),Iv .i64 (aA 32),110),((w.heap.size+1+1),Iv .i64 u,108),((w.heap.size+1),Iv .i64 (qx++qz),110),(w.heap.size,Iv .i64 (px++pz),110)] w7a):=F.out.later hb (nQ _)
 clear hb F G0 G1
 obtain⟨s,es⟩:∃q9,nG da cb=q9:=⟨_,rfl⟩
 have hs:Hid (Dg s):=by show Dg s;rw[←es];exact pZ hda.out hcb.out
 have ls:Hid (s.length=16):=hs.out.1
 rw[es]
 have Es:Hid _:=es
 clear es
 have KA:Hid ((w7a.alloc (.cells (Iv .i64 (aA 16)) 108)).heap[w7a.heap.size]? =some (.cells (Iv .i64 (aA 16)) 108)):=hAN _ _
 go_wp2_with(refine wpPr rfl 108 _ _ rfl w7a.heap.size (Iv .i64 s) rfl rfl _ _ KA.out (aU hs.out.1) (eT hs.out.1) (aH _ _) (fun w7b hP=>sH ?_))
 refine aG ?_
 have F2:=F1.out.newRow hP
 obtain⟨bs,eb⟩:∃x,x=w7a.heap.size:=⟨_,rfl⟩
 have hltbs:w.heap.size≤bs:=by rw[eb];exact F1.out.size
 have nbswheapsize111:(w.heap.size+1+1+1)≠bs:=by rw[eb];exact Nat.ne_of_lt (F1.out.row _ (mC _ (mC _ (mC _ (mC _ (mC _ (mC _ mQ))))))).2.1
 rw[←eb]at F2⊢
 have F:Hid (Rw w [(bs,Iv .i64 s,108),(bcb,Iv .i64 cb,108),(bda,Iv .i64 da,108),(bd,Iv .i64 d,108),(bc,Iv .i64 c,108),(bb,Iv .i64 b,108),(ba,Iv .i64 a,108),((w.heap.size+1+1+1),Iv .i64 (aA 32),110),((w.heap.size+1+1),Iv .i64 u,108),((w.heap.size+1),Iv .i64 (qx++qz),110),(w.heap.size,Iv .i64 (px++pz),110)] w7b):=F2
 clear F1 F2 hP KA eb
 have G0:Hid _:=(F.out.row _ (mC _ (mC _ mQ))).2.2
 have G1:Hid _:=(F.out.row _ (mC _ mQ)).2.2
 go_wp2_with(with_reducible refine aI ?_;first
  | refine wpLr rfl 108 _ rfl bda rfl _ (Iv .i64 da) _ _ G0.out underlying108 rfl (aU lda.out) ?_
  | refine wpLr rfl 108 _ rfl bcb rfl _ (Iv .i64 cb) _ _ G1.out underlying108 rfl (aU lcb.out) ?_)
 refine(yM da cb hda.out hcb.out _).mono ?_
 rintro e w8a ⟨rfl,hb⟩
 have F1:Hid (Rw w [(bs,Iv .i64 s,108),(bcb,Iv .i64 cb,108),(bda,Iv .i64 da,108),(bd,Iv .i64 d,108),(bc,Iv .i64 c,108),(bb,Iv .i64 b,108),(ba,Iv .i64 a,108),((w.heap.size+1+1+1),Iv .i64 (aA 32),110),((w.heap.size+1+1),Iv .i64 u,108),((w.heap.size+1),Iv .i64 (qx++qz),110),(w.heap.size,Iv .i64 (px++pz),110)] w8a):=F.out.later hb (nQ _)
 clear hb F G0 G1
 obtain⟨v,ev⟩:∃q9,nN da cb=q9:=⟨_,rfl⟩
 have hv:Hid (Dg v):=by show Dg v;rw[←ev];exact m8 hda.out hcb.out
 have lv:Hid (v.length=16):=hv.out.1
 rw[ev]
 have Ev:Hid _:=ev
 clear ev
 have KA:Hid ((w8a.alloc (.cells (Iv .i64 (aA 16)) 108)).heap[w8a.heap.size]? =some (.cells (Iv .i64 (aA 16)) 108)):=hAN _ _
 go_wp2_with(refine wpPr rfl 108 _ _ rfl w8a.heap.size (Iv .i64 v) rfl rfl _ _ KA.out (aU hv.out.1) (eT hv.out.1) (aH _ _) (fun w8b hP=>sH ?_))
 refine aG ?_
 have F2:=F1.out.newRow hP
 obtain⟨bv,eb⟩:∃x,x=w8a.heap.size:=⟨_,rfl⟩
 have hltbv:w.heap.size≤bv:=by rw[eb];exact F1.out.size
 have nbvwheapsize111:(w.heap.size+1+1+1)≠bv:=by rw[eb];exact Nat.ne_of_lt (F1.out.row _ (mC _ (mC _ (mC _ (mC _ (mC _ (mC _ (mC _ mQ)))))))).2.1
 rw[←eb]at F2⊢
 have F:Hid (Rw w [(bv,Iv .i64 v,108),(bs,Iv .i64 s,108),(bcb,Iv .i64 cb,108),(bda,Iv .i64 da,108),(bd,Iv .i64 d,108),(bc,Iv .i64 c,108),(bb,Iv .i64 b,108),(ba,Iv .i64 a,108),((w.heap.size+1+1+1),Iv .i64 (aA 32),110),((w.heap.size+1+1),Iv .i64 u,108),((w.heap.size+1),Iv .i64 (qx++qz),110),(w.heap.size,Iv .i64 (px++pz),110)] w8b):=F2
 clear F1 F2 hP KA eb
 go_wp2_with fail
 refine wRt 9 (fun w'=>∃x:J9 w8b.heap.size w8b,w'=x.w) (.held [0,1,3,4,5] (.tail 2 (.tail 6 (.tail 7 (.tail 8 (.last 9 .done)))))) kJ (by kernel_rfl) ⟨⟨_,bDr (Below.refl _ _) 1⟩,rfl⟩ ?_
 simp only[gM,oS]
 refine wqLr rfl 108 _ rfl bs rfl _ (Iv .i64 s) _ _ (fun w' hw'=>by obtain⟨x,rfl⟩:=hw';exact(F.out.later x.bel (nQ _)).row _ (mC _ mQ)|>.2.2) underlying108 rfl (aU hs.out.1) ?_
 simp only[pS]
 refine wqLr rfl 108 _ rfl bs rfl _ (Iv .i64 s) _ _ (fun w' hw'=>by obtain⟨x,rfl⟩:=hw';exact(F.out.later x.bel (nQ _)).row _ (mC _ mQ)|>.2.2) underlying108 rfl (aU hs.out.1) ?_
 simp only[pS]
 refine wqLr rfl 108 _ rfl (w.heap.size+1+1) rfl _ (Iv .i64 u) _ _ (fun w' hw'=>by obtain⟨x,rfl⟩:=hw';exact(F.out.later x.bel (nQ _)).row _ (mC _ (mC _ (mC _ (mC _ (mC _ (mC _ (mC _ (mC _ (mC _ mQ)))))))))|>.2.2) underlying108 rfl (aU hu.out.1) ?_
 simp only[pS]
 refine wqLr rfl 108 _ rfl bv rfl _ (Iv .i64 v) _ _ (fun w' hw'=>by obtain⟨x,rfl⟩:=hw';exact(F.out.later x.bel (nQ _)).row _ mQ|>.2.2) underlying108 rfl (aU hv.out.1) ?_
 simp only[pS]
 refine wqLr rfl 108 _ rfl bv rfl _ (Iv .i64 v) _ _ (fun w' hw'=>by obtain⟨x,rfl⟩:=hw';exact(F.out.later x.bel (nQ _)).row _ mQ|>.2.2) underlying108 rfl (aU hv.out.1) ?_
 simp only[pS]
 refine wqN ?_
 go_wp2_with fail
 refine(kQ s s hs.out hs.out _).mono ?_
 rintro e z1 ⟨rfl,hb⟩
 have B1:Hid (Below w8b.heap.size w8b z1):=(bDr (Below.refl w8b.heap.size w8b) 1).trans hb
 clear hb
 obtain⟨X,eX⟩:∃q9,fH s s=q9:=⟨_,rfl⟩
 have hX:Hid (Dg X):=by show Dg X;rw[←eX];exact gH hs.out hs.out
 rw[eX]
 have EX:Hid _:=eX
 clear eX
 go_wp2_with fail
 refine⟨⟨⟨z1,B1.out⟩,rfl⟩,?_⟩
 go_wp2_with fail
 refine(kQ v v hv.out hv.out _).mono ?_
 rintro e z2 ⟨rfl,hb⟩
 have B2:Hid (Below w8b.heap.size w8b z2):=B1.out.trans (hb.mono B1.out.size)
 clear hb B1
 obtain⟨vv,evv⟩:∃q9,fH v v=q9:=⟨_,rfl⟩
 have hvv:Hid (Dg vv):=by show Dg vv;rw[←evv];exact gH hv.out hv.out
 rw[evv]
 have Evv:Hid _:=evv
 clear evv
 go_wp2_with fail
 refine⟨⟨⟨z2,B2.out⟩,rfl⟩,?_⟩
 go_wp2_with fail
 refine(kQ u vv hu.out hvv.out _).mono ?_
 rintro e z3 ⟨rfl,hb⟩
 have B3:Hid (Below w8b.heap.size w8b z3):=B2.out.trans (hb.mono B2.out.size)
 clear hb B2
 obtain⟨Z,eZ⟩:∃q9,fH u vv=q9:=⟨_,rfl⟩
 have hZ:Hid (Dg Z):=by show Dg Z;rw[←eZ];exact gH hu.out hvv.out
 rw[eZ]
 have EZ:Hid _:=eZ
 clear eZ
 go_wp2_with fail
 refine⟨⟨⟨z3,B3.out⟩,rfl⟩,?_⟩
 have hbu:=IV X Z hX.out.1 hZ.out.1
 have hl32:Hid ((X++Z).length=32):=by show _=_;rw[lQ,hX.out.1,hZ.out.1]
 refine bA rfl 110 _ rfl (Iv .i64 (X++Z)) _ (by kernel_rfl) hbu ?_
 go_wp2_with fail
 refine⟨⟨⟨z3,B3.out⟩,rfl⟩,?_⟩
 clear hbu
 have F9:Hid (Rw w [(bv,Iv .i64 v,108),(bs,Iv .i64 s,108),(bcb,Iv .i64 cb,108),(bda,Iv .i64 da,108),(bd,Iv .i64 d,108),(bc,Iv .i64 c,108),(bb,Iv .i64 b,108),(ba,Iv .i64 a,108),((w.heap.size+1+1+1),Iv .i64 (aA 32),110),((w.heap.size+1+1),Iv .i64 u,108),((w.heap.size+1),Iv .i64 (qx++qz),110),(w.heap.size,Iv .i64 (px++pz),110)] z3):=F.out.later B3.out (nQ _)
 have G9:Hid _:=(F9.out.row _ (mC _ (mC _ (mC _ (mC _ (mC _ (mC _ (mC _ (mC _ mQ))))))))).2.2
 have BW:Hid _:=F9.out.bel
 clear F9 F B3
 go_wp2_with(refine wpPr rfl 110 _ _ rfl (w.heap.size+1+1+1) (Iv .i64 (X++Z)) rfl rfl _ _ G9.out (dF hl32.out) (kE hl32.out) (aH _ _) (fun Z9 hP=>sH ?_))
 refine aG ?_
 refine mV ?_
 have B9:=hP.below _ _ BW.out (by omega)
 have K9:=hP.here
 clear hP G9 BW
 have hv:Hid (rH px pz qx qz++rI px pz qx qz u=X++Z):=by show _=_;unfold rH rI;rw[Ea.out,Eb.out,Ec.out,Ed.out,Eda.out,Ecb.out,Es.out,Ev.out,EX.out,Evv.out,EZ.out]
 obtain⟨r,er⟩:∃x,X++Z=x:=⟨_,rfl⟩
 rw[er]at K9 hl32 hv
 clear er
 go_wp2
 exact bodyPost_ret (v:=.agg (Iv .i64 r)) (results_cell_row rfl _ _ _ _ (Iv .i64 r) _ _ rfl K9 underlying110 rfl (dF hl32.out)) rfl ⟨by rw[hv.out],B9⟩
end Go.Proofs.YtgcepckaolkeoaaGreatDoor
