import Derived.Test.YtgcepckaolkeoaaGreatDoorMY19
namespace Go.Proofs.YtgcepckaolkeoaaGreatDoor
open Go.RowKit
open Go.Proofs.Tryz
open Go renaming heap_alloc_new → hAN, wpList_load_row → wpLr, wpQuiet_nil → wqN
open Go.World renaming size_alloc → wU
open List renaming length_append → lQ, mem_cons_of_mem → mC, mem_cons_self → mQ, setIfInBounds_toArray → sU, set_cons_succ → sJ, set_cons_zero → sY
open Nat renaming le_refl → nQ
set_option linter.unusedVariables false
set_option linter.unusedSimpArgs false
theorem plusV (x y:List Int) (hx:Hid (fY x)) (hy:Hid (fY y)):∃z,sG x y=z∧Hid (fY z)∧Hid (z.length=5)∧Hid (∀W,Calls prog 144 #[.agg (Iv .u64 x),.agg (Iv .u64 y)] W fun e w'=>e=.returned (.agg (Iv .u64 z))∧Below W.heap.size W w'):=⟨_,rfl,zI hx.out hy.out,(zI hx.out hy.out).length,zJ x y hx.out hy.out⟩
theorem minusV (x y:List Int) (hx:Hid (fY x)) (hy:Hid (fY y)):∃z,m7 x y=z∧Hid (fY z)∧Hid (z.length=5)∧Hid (∀W,Calls prog 145 #[.agg (Iv .u64 x),.agg (Iv .u64 y)] W fun e w'=>e=.returned (.agg (Iv .u64 z))∧Below W.heap.size W w'):=⟨_,rfl,vQ hx.out hy.out,(vQ hx.out hy.out).length,vR x y hx.out hy.out⟩
theorem timesV (x y:List Int) (hx:Hid (fY x)) (hy:Hid (fY y)):∃z,cX x y=z∧Hid (fY z)∧Hid (z.length=5)∧Hid (∀W,Calls prog 124 #[.agg (Iv .u64 x),.agg (Iv .u64 y)] W fun e w'=>e=.returned (.agg (Iv .u64 z))∧Below W.heap.size W w'):=⟨_,rfl,jC hx.out hy.out,(jC hx.out hy.out).length,fX x y hx.out hy.out⟩
abbrev tq0:Tr:=(.tail 12 (.last 13 .done))
abbrev tq1:Tr:=(.tail 11 tq0)
abbrev tq2:Tr:=(.tail 10 tq0)
abbrev tq3:Tr:=(.fork 10 tq1 11 tq2)
abbrev tq4:Tr:=(.tail 9 tq0)
abbrev tq5:Tr:=(.fork 9 tq1 11 tq4)
abbrev tq6:Tr:=(.fork 9 tq2 10 tq4)
abbrev tq7:Tr:=(.fork3 9 tq3 10 tq5 11 tq6)
abbrev tq8:Tr:=(.tail 4 tq4)
abbrev tq9:Tr:=(.fork 4 tq5 11 tq8)
abbrev tq10:Tr:=(.fork 4 tq6 10 tq8)
abbrev tq11:Tr:=(.fork3 4 tq7 10 tq9 11 tq10)
abbrev tq12:Tr:=(.tail 8 (.last 9 .done))
abbrev tq13:Tr:=(.tail 7 tq12)
abbrev tq14:Tr:=(.tail 6 tq12)
abbrev tq15:Tr:=(.fork 6 tq13 7 tq14)
abbrev tq16:Tr:=(.tail 5 tq12)
abbrev tq17:Tr:=(.fork 5 tq13 7 tq16)
abbrev tq18:Tr:=(.fork 5 tq14 6 tq16)
abbrev tq19:Tr:=(.fork3 5 tq15 6 tq17 7 tq18)
abbrev tq20:Tr:=(.tail 2 tq16)
abbrev tq21:Tr:=(.fork 2 tq17 7 tq20)
abbrev tq22:Tr:=(.fork 2 tq18 6 tq20)
abbrev tq23:Tr:=(.fork3 2 tq19 6 tq21 7 tq22)
set_option maxRecDepth 100000 in
set_option maxHeartbeats 16000000 in
theorem uK (u px pz qx qz:List Int) (Hu:fY u) (Hpx:fY px) (Hpz:fY pz) (Hqx:fY qx) (Hqz:fY qz) (w:World):
 Calls prog 133 #[.agg (Iv .u64 u),.agg (Iv .u64 (px++pz)),.agg (Iv .u64 (qx++qz))] w fun e w'=>e=.returned (.tuple #[.agg (Iv .u64 ((mT u ⟨px,pz,qx,qz⟩).x1++(mT u ⟨px,pz,qx,qz⟩).z1)),.agg (Iv .u64 ((mT u ⟨px,pz,qx,qz⟩).x2++(mT u ⟨px,pz,qx,qz⟩).z2))])∧Below w.heap.size w w':=by
 have hzv:=ZD
 have hzr:=QX
 have hbu:=O3 121665
 obtain⟨k1,ek1⟩:∃x:List Int,[121665,0,0,0,0]=x:=⟨_,rfl⟩
 have hk1:Hid (fY k1):=by show fY k1;rw[←ek1];exact(i4 121665 (by decide)).1
 have hpx:Hid (fY px):=Hpx
 have lpx:Hid (px.length=5):=hpx.out.length
 have hpz:Hid (fY pz):=Hpz
 have lpz:Hid (pz.length=5):=hpz.out.length
 have hqx:Hid (fY qx):=Hqx
 have lqx:Hid (qx.length=5):=hqx.out.length
 have hqz:Hid (fY qz):=Hqz
 have lqz:Hid (qz.length=5):=hqz.out.length
 have hu:Hid (fY u):=Hu
 have lu:Hid (u.length=5):=hu.out.length
 have lk1:Hid (k1.length=5):=hk1.out.length
 obtain⟨a,ea,ha,la,Ca⟩:=plusV px pz hpx hpz
 obtain⟨b,eb,hb,lb,Cb⟩:=minusV px pz hpx hpz
 obtain⟨c,ec,hc,lc,Cc⟩:=plusV qx qz hqx hqz
 obtain⟨d,ed,hd,ld,Cd⟩:=minusV qx qz hqx hqz
 obtain⟨aa,eaa,haa,laa,Caa⟩:=timesV a a ha ha
 obtain⟨bb,ebb,hbb,lbb,Cbb⟩:=timesV b b hb hb
 obtain⟨g,eg,hg,lg,Cg⟩:=minusV aa bb haa hbb
 obtain⟨da,eda,hda,lda,Cda⟩:=timesV d a hd ha
 obtain⟨cb,ecb,hcb,lcb,Ccb⟩:=timesV c b hc hb
 obtain⟨s,es,hs,ls,Cs⟩:=plusV da cb hda hcb
 obtain⟨f,ef,hf,lf,Cf⟩:=minusV da cb hda hcb
 obtain⟨x1,ex1,hx1,lx1,Cx1⟩:=timesV aa bb haa hbb
 obtain⟨t1,et1,ht1,lt1,Ct1⟩:=timesV g k1 hg hk1
 obtain⟨t2,et2,ht2,lt2,Ct2⟩:=plusV aa t1 haa ht1
 obtain⟨z1,ez1,hz1,lz1,Cz1⟩:=timesV g t2 hg ht2
 obtain⟨x2,ex2,hx2,lx2,Cx2⟩:=timesV s s hs hs
 obtain⟨ff,eff,hff,lff,Cff⟩:=timesV f f hf hf
 obtain⟨z2,ez2,hz2,lz2,Cz2⟩:=timesV u ff hu hff
 have HR1:Hid ((mT u ⟨px,pz,qx,qz⟩).x1++(mT u ⟨px,pz,qx,qz⟩).z1=x1++z1):=by show _=_;rw[←ex1,←ez1,←et2,←et1,←eg,←eaa,←ebb,←ea,←eb,←ek1];rfl
 have HR2:Hid ((mT u ⟨px,pz,qx,qz⟩).x2++(mT u ⟨px,pz,qx,qz⟩).z2=x2++z2):=by show _=_;rw[←ex2,←ez2,←eff,←es,←ef,←eda,←ecb,←ea,←eb,←ec,←ed];rfl
 rw[HR1.out,HR2.out]
 rw[ek1]at hbu
 have HBU:Hid _:=hbu
 clear hbu
 clear ek1 Hpx Hpz Hqx Hqz Hu ea eb ec ed eaa ebb eg eda ecb es ef ex1 et1 et2 ez1 ex2 eff ez2
 have F0:Rn w [rR (w.heap.size+1+1+1+1) (aA 10),rR (w.heap.size+1+1+1) (aA 10),rR (w.heap.size+1+1) (qx++qz),rR (w.heap.size+1) (px++pz),rE w.heap.size u] (((((w.alloc (.cells (Iv .u64 u) 211)).alloc (.cells (Iv .u64 (px++pz)) 213)).alloc (.cells (Iv .u64 (qx++qz)) 213)).alloc (.cells (Iv .u64 (aA 10)) 213)).alloc (.cells (Iv .u64 (aA 10)) 213)):=((((((Rn.start w).alloc' w.heap.size (by first|rfl|simp only[wU]) _ _).alloc' (w.heap.size+1) (by first|rfl|simp only[wU]) _ _).alloc' (w.heap.size+1+1) (by first|rfl|simp only[wU]) _ _).alloc' (w.heap.size+1+1+1) (by first|rfl|simp only[wU]) _ _).alloc' (w.heap.size+1+1+1+1) (by first|rfl|simp only[wU]) _ _)
 obtain⟨W,hW⟩:∃W,(((((w.alloc (.cells (Iv .u64 u) 211)).alloc (.cells (Iv .u64 (px++pz)) 213)).alloc (.cells (Iv .u64 (qx++qz)) 213)).alloc (.cells (Iv .u64 (aA 10)) 213)).alloc (.cells (Iv .u64 (aA 10)) 213))=W:=⟨_,rfl⟩
 rw[hW]at F0
 have F:Hid (Rn w [rR (w.heap.size+1+1+1+1) (aA 10),rR (w.heap.size+1+1+1) (aA 10),rR (w.heap.size+1+1) (qx++qz),rR (w.heap.size+1) (px++pz),rE w.heap.size u] W):=F0
 have HW:Hid _:=hW
 clear hW F0
 go_enter func133,ntmps133
 go_wp2_with fail
 rw[HW.out]
 clear HW
 have FD:Hid _:=F.out.drew
 clear F
 refine wRt 13 _ (.held [0,1,2,3,5,6,7,8] tq11) kJ (by kernel_rfl) FD.out ?_
 obtain⟨V,eV⟩:∃V,V=W.drew:=⟨_,rfl⟩
 rw[←eV]at FD⊢
 clear eV
 refine wTh ?_
 simp only[oS]
 refine aB rfl (.pointer (some ⟨(w.heap.size+1),0,none⟩)) (fun w'=>by kernel_rfl) ?_
 simp only[Act.put,sU,sJ,sY]
 refine wqLm rfl 211 _ rfl (w.heap.size+1) 0 rfl (px.map (Value.int .u64)) _ (fun w' hw'=>gW (hw'.at (mC _ (mC _ (mC _ mQ))))) underlying211 rfl (jI lpx.out) ?_
 simp only[Act.put,sU,sJ,sY]
 refine aB rfl (.pointer (some ⟨(w.heap.size+1),5,none⟩)) (fun w'=>by kernel_rfl) ?_
 simp only[Act.put,sU,sJ,sY]
 refine wqLm rfl 211 _ rfl (w.heap.size+1) 5 rfl (pz.map (Value.int .u64)) _ (fun w' hw'=>gZ 5 lpx.out (hw'.at (mC _ (mC _ (mC _ mQ))))) underlying211 rfl (jI lpz.out) ?_
 simp only[Act.put,sU,sJ,sY]
 refine aB rfl (.pointer (some ⟨(w.heap.size+1),0,none⟩)) (fun w'=>by kernel_rfl) ?_
 simp only[Act.put,sU,sJ,sY]
 refine wqLm rfl 211 _ rfl (w.heap.size+1) 0 rfl (px.map (Value.int .u64)) _ (fun w' hw'=>gW (hw'.at (mC _ (mC _ (mC _ mQ))))) underlying211 rfl (jI lpx.out) ?_
 simp only[Act.put,sU,sJ,sY]
 refine aB rfl (.pointer (some ⟨(w.heap.size+1),5,none⟩)) (fun w'=>by kernel_rfl) ?_
 simp only[Act.put,sU,sJ,sY]
 refine wqLm rfl 211 _ rfl (w.heap.size+1) 5 rfl (pz.map (Value.int .u64)) _ (fun w' hw'=>gZ 5 lpx.out (hw'.at (mC _ (mC _ (mC _ mQ))))) underlying211 rfl (jI lpz.out) ?_
 simp only[Act.put,sU,sJ,sY]
 refine wqN ?_
 apply QH FD tq0
 intro h211
 apply QH FD tq4
 intro h111
 apply yH FD tq2
 intro h201
 apply yH FD tq1
 intro h210
 apply QH FD tq8
 intro h011
 apply yH FD tq6
 intro h101
 apply yH FD tq5
 intro h110
 apply ZI FD tq3
 intro h200
 apply yH FD tq10
 intro h001
 apply yH FD tq9
 intro h010
 apply ZI FD tq7
 intro h100
 have H:Hid _:=FD.out
 ·skip
  refine wTf3 ?_ ?_ ?_
  ·skip
   refine trC Ca H rfl rfl (by kernel_rfl) (fun _ q=>q) fun v q=>?_
   simp only[Act.put,sU,sJ,sY]
   exact h100.out  _ q
  ·skip
   refine lN H rfl rfl rfl (fun _ q=>q) fun c0 v q=>?_
   simp only[Act.put,sU,sJ,sY]
   exact h010.out c0 _ q
  ·skip
   refine lN H rfl rfl rfl (fun _ q=>q) fun c1 v q=>?_
   simp only[Act.put,sU,sJ,sY]
   exact h001.out c1 _ q
 ·skip
  intro  v H0
  have H:Hid _:=H0
  clear H0
  refine wTf3 ?_ ?_ ?_
  ·skip
   refine trC Cb H rfl rfl (by kernel_rfl) (fun _ q=>q) fun v q=>?_
   simp only[Act.put,sU,sJ,sY]
   exact h200.out  _ q
  ·skip
   refine lN H rfl rfl rfl (fun _ q=>q) fun c0 v q=>?_
   simp only[Act.put,sU,sJ,sY]
   exact h110.out c0 _ q
  ·skip
   refine lN H rfl rfl rfl (fun _ q=>q) fun c1 v q=>?_
   simp only[Act.put,sU,sJ,sY]
   exact h101.out c1 _ q
 ·skip
  intro c0 v H0
  have H:Hid _:=H0
  clear H0
  refine wTf ?_ ?_
  ·skip
   refine trC Ca H rfl rfl (by kernel_rfl) (fun _ q=>q.tail) fun v q=>?_
   simp only[Act.put,sU,sJ,sY]
   exact h110.out c0 _ q
  ·skip
   refine lN H rfl rfl rfl (fun _ q=>q.tail) fun c1 v q=>?_
   simp only[Act.put,sU,sJ,sY]
   exact h011.out c0 c1 _ q
 ·skip
  intro c1 v H0
  have H:Hid _:=H0
  clear H0
  refine wTf ?_ ?_
  ·skip
   refine trC Ca H rfl rfl (by kernel_rfl) (fun _ q=>q.tail) fun v q=>?_
   simp only[Act.put,sU,sJ,sY]
   exact h101.out c1 _ q
  ·skip
   refine lN H rfl rfl rfl (fun _ q=>q.tail) fun c0 v q=>?_
   simp only[Act.put,sU,sJ,sY]
   exact h011.out c0 c1 _ q.two
 ·skip
  intro  v H0
  have H:Hid _:=H0
  clear H0
  refine wTf ?_ ?_
  ·skip
   refine lN H rfl rfl rfl (fun _ q=>q) fun c0 v q=>?_
   simp only[Act.put,sU,sJ,sY]
   exact h210.out c0 _ q
  ·skip
   refine lN H rfl rfl rfl (fun _ q=>q) fun c1 v q=>?_
   simp only[Act.put,sU,sJ,sY]
   exact h201.out c1 _ q
 ·skip
  intro c0 v H0
  have H:Hid _:=H0
  clear H0
  refine wTf ?_ ?_
  ·skip
   refine trC Cb H rfl rfl (by kernel_rfl) (fun _ q=>q.tail) fun v q=>?_
   simp only[Act.put,sU,sJ,sY]
   exact h210.out c0 _ q
  ·skip
   refine lN H rfl rfl rfl (fun _ q=>q.tail) fun c1 v q=>?_
   simp only[Act.put,sU,sJ,sY]
   exact h111.out c0 c1 _ q
 ·skip
  intro c1 v H0
  have H:Hid _:=H0
  clear H0
  refine wTf ?_ ?_
  ·skip
   refine trC Cb H rfl rfl (by kernel_rfl) (fun _ q=>q.tail) fun v q=>?_
   simp only[Act.put,sU,sJ,sY]
   exact h201.out c1 _ q
  ·skip
   refine lN H rfl rfl rfl (fun _ q=>q.tail) fun c0 v q=>?_
   simp only[Act.put,sU,sJ,sY]
   exact h111.out c0 c1 _ q.two
 ·skip
  intro c0 c1 v H0
  have H:Hid _:=H0
  clear H0
  refine wTt ?_
  refine trC Ca H rfl rfl (by kernel_rfl) (fun _ q=>q.tail.tail) fun v q=>?_
  simp only[Act.put,sU,sJ,sY]
  exact h111.out c0 c1 _ q
 ·skip
  intro c0 v H0
  have H:Hid _:=H0
  clear H0
  refine wTt ?_
  refine lN H rfl rfl rfl (fun _ q=>q.tail) fun c1 v q=>?_
  simp only[Act.put,sU,sJ,sY]
  exact h211.out c0 c1 _ q
 ·skip
  intro c1 v H0
  have H:Hid _:=H0
  clear H0
  refine wTt ?_
  refine lN H rfl rfl rfl (fun _ q=>q.tail) fun c0 v q=>?_
  simp only[Act.put,sU,sJ,sY]
  exact h211.out c0 c1 _ q.two
 ·skip
  intro c0 c1 v H0
  have H:Hid _:=H0
  clear H0
  refine wTt ?_
  refine trC Cb H rfl rfl (by kernel_rfl) (fun _ q=>q.tail.tail) fun v q=>?_
  simp only[Act.put,sU,sJ,sY]
  exact h211.out c0 c1 _ q
 intro ba bb_ v0 H0
 have H:Hid _:=H0
 clear H0
 try clear FD
 have F:Hid _:=H.out
 clear H
 refine wTt ?_
 simp only[oS]
 have KA:Hid _:=F.out.at (mC _ mQ)
 go_wp2_with(refine wpPr rfl 211 _ _ rfl ba (Iv .u64 a) rfl rfl _ _ KA.out (bC la.out) (qN la.out) (aG _ _) (fun v2 hP=>sH ?_))
 refine aH ?_
 have F1:Hid _:=F.out.put1 hP
 clear hP KA F
 have F:Hid _:=F1.out
 clear F1
 go_wp2_with fail
 refine⟨F.out.tail.tail,?_⟩
 refine wTl ?_
 simp only[oS]
 have KA:Hid _:=F.out.at mQ
 go_wp2_with(refine wpPr rfl 211 _ _ rfl bb_ (Iv .u64 b) rfl rfl _ _ KA.out (bC lb.out) (qN lb.out) (aG _ _) (fun v3 hP=>sH ?_))
 refine aH ?_
 have F1:Hid _:=F.out.put0 hP
 clear hP KA F
 have F:Hid _:=F1.out
 clear F1
 refine bE ?_
 go_wp2_with fail
 have FD:Hid _:=F.out.drew
 clear F
 refine wRt 13 _ (.held [0,1,2,3,5,6,7,8] tq11) kJ (by kernel_rfl) FD.out ?_
 obtain⟨V,eV⟩:∃V,V=v3.drew:=⟨_,rfl⟩
 rw[←eV]at FD⊢
 clear eV
 refine wTh ?_
 simp only[oS]
 refine aB rfl (.pointer (some ⟨(w.heap.size+1+1),0,none⟩)) (fun w'=>by kernel_rfl) ?_
 simp only[Act.put,sU,sJ,sY]
 refine wqLm rfl 211 _ rfl (w.heap.size+1+1) 0 rfl (qx.map (Value.int .u64)) _ (fun w' hw'=>gW (hw'.at (mC _ (mC _ (mC _ (mC _ mQ)))))) underlying211 rfl (jI lqx.out) ?_
 simp only[Act.put,sU,sJ,sY]
 refine aB rfl (.pointer (some ⟨(w.heap.size+1+1),5,none⟩)) (fun w'=>by kernel_rfl) ?_
 simp only[Act.put,sU,sJ,sY]
 refine wqLm rfl 211 _ rfl (w.heap.size+1+1) 5 rfl (qz.map (Value.int .u64)) _ (fun w' hw'=>gZ 5 lqx.out (hw'.at (mC _ (mC _ (mC _ (mC _ mQ)))))) underlying211 rfl (jI lqz.out) ?_
 simp only[Act.put,sU,sJ,sY]
 refine aB rfl (.pointer (some ⟨(w.heap.size+1+1),0,none⟩)) (fun w'=>by kernel_rfl) ?_
 simp only[Act.put,sU,sJ,sY]
 refine wqLm rfl 211 _ rfl (w.heap.size+1+1) 0 rfl (qx.map (Value.int .u64)) _ (fun w' hw'=>gW (hw'.at (mC _ (mC _ (mC _ (mC _ mQ)))))) underlying211 rfl (jI lqx.out) ?_
 simp only[Act.put,sU,sJ,sY]
 refine aB rfl (.pointer (some ⟨(w.heap.size+1+1),5,none⟩)) (fun w'=>by kernel_rfl) ?_
 simp only[Act.put,sU,sJ,sY]
 refine wqLm rfl 211 _ rfl (w.heap.size+1+1) 5 rfl (qz.map (Value.int .u64)) _ (fun w' hw'=>gZ 5 lqx.out (hw'.at (mC _ (mC _ (mC _ (mC _ mQ)))))) underlying211 rfl (jI lqz.out) ?_
 simp only[Act.put,sU,sJ,sY]
 refine wqN ?_
 apply QH FD tq0
 intro h211
 apply QH FD tq4
 intro h111
 apply yH FD tq2
 intro h201
 apply yH FD tq1
 intro h210
 apply QH FD tq8
 intro h011
 apply yH FD tq6
 intro h101
 apply yH FD tq5
 intro h110
 apply ZI FD tq3
 intro h200
 apply yH FD tq10
 intro h001
 apply yH FD tq9
 intro h010
 apply ZI FD tq7
 intro h100
 have H:Hid _:=FD.out
 ·skip
  refine wTf3 ?_ ?_ ?_
  ·skip
   refine trC Cc H rfl rfl (by kernel_rfl) (fun _ q=>q) fun v q=>?_
   simp only[Act.put,sU,sJ,sY]
   exact h100.out  _ q
  ·skip
   refine lN H rfl rfl rfl (fun _ q=>q) fun c0 v q=>?_
   simp only[Act.put,sU,sJ,sY]
   exact h010.out c0 _ q
  ·skip
   refine lN H rfl rfl rfl (fun _ q=>q) fun c1 v q=>?_
   simp only[Act.put,sU,sJ,sY]
   exact h001.out c1 _ q
 ·skip
  intro  v H0
  have H:Hid _:=H0
  clear H0
  refine wTf3 ?_ ?_ ?_
  ·skip
   refine trC Cd H rfl rfl (by kernel_rfl) (fun _ q=>q) fun v q=>?_
   simp only[Act.put,sU,sJ,sY]
   exact h200.out  _ q
  ·skip
   refine lN H rfl rfl rfl (fun _ q=>q) fun c0 v q=>?_
   simp only[Act.put,sU,sJ,sY]
   exact h110.out c0 _ q
  ·skip
   refine lN H rfl rfl rfl (fun _ q=>q) fun c1 v q=>?_
   simp only[Act.put,sU,sJ,sY]
   exact h101.out c1 _ q
 ·skip
  intro c0 v H0
  have H:Hid _:=H0
  clear H0
  refine wTf ?_ ?_
  ·skip
   refine trC Cc H rfl rfl (by kernel_rfl) (fun _ q=>q.tail) fun v q=>?_
   simp only[Act.put,sU,sJ,sY]
   exact h110.out c0 _ q
  ·skip
   refine lN H rfl rfl rfl (fun _ q=>q.tail) fun c1 v q=>?_
   simp only[Act.put,sU,sJ,sY]
   exact h011.out c0 c1 _ q
 ·skip
  intro c1 v H0
  have H:Hid _:=H0
  clear H0
  refine wTf ?_ ?_
  ·skip
   refine trC Cc H rfl rfl (by kernel_rfl) (fun _ q=>q.tail) fun v q=>?_
   simp only[Act.put,sU,sJ,sY]
   exact h101.out c1 _ q
  ·skip
   refine lN H rfl rfl rfl (fun _ q=>q.tail) fun c0 v q=>?_
   simp only[Act.put,sU,sJ,sY]
   exact h011.out c0 c1 _ q.two
 ·skip
  intro  v H0
  have H:Hid _:=H0
  clear H0
  refine wTf ?_ ?_
  ·skip
   refine lN H rfl rfl rfl (fun _ q=>q) fun c0 v q=>?_
   simp only[Act.put,sU,sJ,sY]
   exact h210.out c0 _ q
  ·skip
   refine lN H rfl rfl rfl (fun _ q=>q) fun c1 v q=>?_
   simp only[Act.put,sU,sJ,sY]
   exact h201.out c1 _ q
 ·skip
  intro c0 v H0
  have H:Hid _:=H0
  clear H0
  refine wTf ?_ ?_
  ·skip
   refine trC Cd H rfl rfl (by kernel_rfl) (fun _ q=>q.tail) fun v q=>?_
   simp only[Act.put,sU,sJ,sY]
   exact h210.out c0 _ q
  ·skip
   refine lN H rfl rfl rfl (fun _ q=>q.tail) fun c1 v q=>?_
   simp only[Act.put,sU,sJ,sY]
   exact h111.out c0 c1 _ q
 ·skip
  intro c1 v H0
  have H:Hid _:=H0
  clear H0
  refine wTf ?_ ?_
  ·skip
   refine trC Cd H rfl rfl (by kernel_rfl) (fun _ q=>q.tail) fun v q=>?_
   simp only[Act.put,sU,sJ,sY]
   exact h201.out c1 _ q
  ·skip
   refine lN H rfl rfl rfl (fun _ q=>q.tail) fun c0 v q=>?_
   simp only[Act.put,sU,sJ,sY]
   exact h111.out c0 c1 _ q.two
 ·skip
  intro c0 c1 v H0
  have H:Hid _:=H0
  clear H0
  refine wTt ?_
  refine trC Cc H rfl rfl (by kernel_rfl) (fun _ q=>q.tail.tail) fun v q=>?_
  simp only[Act.put,sU,sJ,sY]
  exact h111.out c0 c1 _ q
 ·skip
  intro c0 v H0
  have H:Hid _:=H0
  clear H0
  refine wTt ?_
  refine lN H rfl rfl rfl (fun _ q=>q.tail) fun c1 v q=>?_
  simp only[Act.put,sU,sJ,sY]
  exact h211.out c0 c1 _ q
 ·skip
  intro c1 v H0
  have H:Hid _:=H0
  clear H0
  refine wTt ?_
  refine lN H rfl rfl rfl (fun _ q=>q.tail) fun c0 v q=>?_
  simp only[Act.put,sU,sJ,sY]
  exact h211.out c0 c1 _ q.two
 ·skip
  intro c0 c1 v H0
  have H:Hid _:=H0
  clear H0
  refine wTt ?_
  refine trC Cd H rfl rfl (by kernel_rfl) (fun _ q=>q.tail.tail) fun v q=>?_
  simp only[Act.put,sU,sJ,sY]
  exact h211.out c0 c1 _ q
 intro bc bd v3 H0
 have H:Hid _:=H0
 clear H0
 try clear FD
 have F:Hid _:=H.out
 clear H
 refine wTt ?_
 simp only[oS]
 have KA:Hid _:=F.out.at (mC _ mQ)
 go_wp2_with(refine wpPr rfl 211 _ _ rfl bc (Iv .u64 c) rfl rfl _ _ KA.out (bC lc.out) (qN lc.out) (aG _ _) (fun v5 hP=>sH ?_))
 refine aH ?_
 have F1:Hid _:=F.out.put1 hP
 clear hP KA F
 have F:Hid _:=F1.out
 clear F1
 go_wp2_with fail
 refine⟨F.out.tail.tail,?_⟩
 refine wTl ?_
 simp only[oS]
 have KA:Hid _:=F.out.at mQ
 go_wp2_with(refine wpPr rfl 211 _ _ rfl bd (Iv .u64 d) rfl rfl _ _ KA.out (bC ld.out) (qN ld.out) (aG _ _) (fun v6 hP=>sH ?_))
 refine aH ?_
 have F1:Hid _:=F.out.put0 hP
 clear hP KA F
 have F:Hid _:=F1.out
 clear F1
 refine bE ?_
 go_wp2_with fail
 have FD:Hid _:=F.out.drew
 clear F
 refine wRt 9 _ (.held [0,1,3,4] tq23) kJ (by kernel_rfl) FD.out ?_
 obtain⟨V,eV⟩:∃V,V=v6.drew:=⟨_,rfl⟩
 rw[←eV]at FD⊢
 clear eV
 refine wTh ?_
 simp only[oS]
 refine wqLr rfl 211 _ rfl ba rfl _ (Iv .u64 a) _ _ (fun w' hw'=>hw'.at (mC _ (mC _ (mC _ mQ)))) underlying211 rfl (bC la.out) ?_
 simp only[Act.put,sU,sJ,sY]
 refine wqLr rfl 211 _ rfl ba rfl _ (Iv .u64 a) _ _ (fun w' hw'=>hw'.at (mC _ (mC _ (mC _ mQ)))) underlying211 rfl (bC la.out) ?_
 simp only[Act.put,sU,sJ,sY]
 refine wqLr rfl 211 _ rfl bb_ rfl _ (Iv .u64 b) _ _ (fun w' hw'=>hw'.at (mC _ (mC _ mQ))) underlying211 rfl (bC lb.out) ?_
 simp only[Act.put,sU,sJ,sY]
 refine wqLr rfl 211 _ rfl bb_ rfl _ (Iv .u64 b) _ _ (fun w' hw'=>hw'.at (mC _ (mC _ mQ))) underlying211 rfl (bC lb.out) ?_
 simp only[Act.put,sU,sJ,sY]
 refine wqN ?_
 apply QH FD tq12
 intro h211
 apply QH FD tq16
 intro h111
 apply yH FD tq14
 intro h201
 apply yH FD tq13
 intro h210
 apply QH FD tq20
 intro h011
 apply yH FD tq18
 intro h101
 apply yH FD tq17
 intro h110
 apply ZI FD tq15
 intro h200
 apply yH FD tq22
 intro h001
 apply yH FD tq21
 intro h010
 apply ZI FD tq19
 intro h100
 have H:Hid _:=FD.out
 ·skip
  refine wTf3 ?_ ?_ ?_
  ·skip
   refine trC Caa H rfl rfl (by kernel_rfl) (fun _ q=>q) fun v q=>?_
   simp only[Act.put,sU,sJ,sY]
   exact h100.out  _ q
  ·skip
   refine lN H rfl rfl rfl (fun _ q=>q) fun c0 v q=>?_
   simp only[Act.put,sU,sJ,sY]
   exact h010.out c0 _ q
  ·skip
   refine lN H rfl rfl rfl (fun _ q=>q) fun c1 v q=>?_
   simp only[Act.put,sU,sJ,sY]
   exact h001.out c1 _ q
 ·skip
  intro  v H0
  have H:Hid _:=H0
  clear H0
  refine wTf3 ?_ ?_ ?_
  ·skip
   refine trC Cbb H rfl rfl (by kernel_rfl) (fun _ q=>q) fun v q=>?_
   simp only[Act.put,sU,sJ,sY]
   exact h200.out  _ q
  ·skip
   refine lN H rfl rfl rfl (fun _ q=>q) fun c0 v q=>?_
   simp only[Act.put,sU,sJ,sY]
   exact h110.out c0 _ q
  ·skip
   refine lN H rfl rfl rfl (fun _ q=>q) fun c1 v q=>?_
   simp only[Act.put,sU,sJ,sY]
   exact h101.out c1 _ q
 ·skip
  intro c0 v H0
  have H:Hid _:=H0
  clear H0
  refine wTf ?_ ?_
  ·skip
   refine trC Caa H rfl rfl (by kernel_rfl) (fun _ q=>q.tail) fun v q=>?_
   simp only[Act.put,sU,sJ,sY]
   exact h110.out c0 _ q
  ·skip
   refine lN H rfl rfl rfl (fun _ q=>q.tail) fun c1 v q=>?_
   simp only[Act.put,sU,sJ,sY]
   exact h011.out c0 c1 _ q
 ·skip
  intro c1 v H0
  have H:Hid _:=H0
  clear H0
  refine wTf ?_ ?_
  ·skip
   refine trC Caa H rfl rfl (by kernel_rfl) (fun _ q=>q.tail) fun v q=>?_
   simp only[Act.put,sU,sJ,sY]
   exact h101.out c1 _ q
  ·skip
   refine lN H rfl rfl rfl (fun _ q=>q.tail) fun c0 v q=>?_
   simp only[Act.put,sU,sJ,sY]
   exact h011.out c0 c1 _ q.two
 ·skip
  intro  v H0
  have H:Hid _:=H0
  clear H0
  refine wTf ?_ ?_
  ·skip
   refine lN H rfl rfl rfl (fun _ q=>q) fun c0 v q=>?_
   simp only[Act.put,sU,sJ,sY]
   exact h210.out c0 _ q
  ·skip
   refine lN H rfl rfl rfl (fun _ q=>q) fun c1 v q=>?_
   simp only[Act.put,sU,sJ,sY]
   exact h201.out c1 _ q
 ·skip
  intro c0 v H0
  have H:Hid _:=H0
  clear H0
  refine wTf ?_ ?_
  ·skip
   refine trC Cbb H rfl rfl (by kernel_rfl) (fun _ q=>q.tail) fun v q=>?_
   simp only[Act.put,sU,sJ,sY]
   exact h210.out c0 _ q
  ·skip
   refine lN H rfl rfl rfl (fun _ q=>q.tail) fun c1 v q=>?_
   simp only[Act.put,sU,sJ,sY]
   exact h111.out c0 c1 _ q
 ·skip
  intro c1 v H0
  have H:Hid _:=H0
  clear H0
  refine wTf ?_ ?_
  ·skip
   refine trC Cbb H rfl rfl (by kernel_rfl) (fun _ q=>q.tail) fun v q=>?_
   simp only[Act.put,sU,sJ,sY]
   exact h201.out c1 _ q
  ·skip
   refine lN H rfl rfl rfl (fun _ q=>q.tail) fun c0 v q=>?_
   simp only[Act.put,sU,sJ,sY]
   exact h111.out c0 c1 _ q.two
 ·skip
  intro c0 c1 v H0
  have H:Hid _:=H0
  clear H0
  refine wTt ?_
  refine trC Caa H rfl rfl (by kernel_rfl) (fun _ q=>q.tail.tail) fun v q=>?_
  simp only[Act.put,sU,sJ,sY]
  exact h111.out c0 c1 _ q
 ·skip
  intro c0 v H0
  have H:Hid _:=H0
  clear H0
  refine wTt ?_
  refine lN H rfl rfl rfl (fun _ q=>q.tail) fun c1 v q=>?_
  simp only[Act.put,sU,sJ,sY]
  exact h211.out c0 c1 _ q
 ·skip
  intro c1 v H0
  have H:Hid _:=H0
  clear H0
  refine wTt ?_
  refine lN H rfl rfl rfl (fun _ q=>q.tail) fun c0 v q=>?_
  simp only[Act.put,sU,sJ,sY]
  exact h211.out c0 c1 _ q.two
 ·skip
  intro c0 c1 v H0
  have H:Hid _:=H0
  clear H0
  refine wTt ?_
  refine trC Cbb H rfl rfl (by kernel_rfl) (fun _ q=>q.tail.tail) fun v q=>?_
  simp only[Act.put,sU,sJ,sY]
  exact h211.out c0 c1 _ q
 intro baa bbb v6 H0
 have H:Hid _:=H0
 clear H0
 try clear FD
 have F:Hid _:=H.out
 clear H
 refine wTt ?_
 simp only[oS]
 have KA:Hid _:=F.out.at (mC _ mQ)
 go_wp2_with(refine wpPr rfl 211 _ _ rfl baa (Iv .u64 aa) rfl rfl _ _ KA.out (bC laa.out) (qN laa.out) (aG _ _) (fun v8 hP=>sH ?_))
 refine aH ?_
 have F1:Hid _:=F.out.put1 hP
 clear hP KA F
 have F:Hid _:=F1.out
 clear F1
 go_wp2_with fail
 refine⟨F.out.tail.tail,?_⟩
 refine wTl ?_
 simp only[oS]
 have KA:Hid _:=F.out.at mQ
 go_wp2_with(refine wpPr rfl 211 _ _ rfl bbb (Iv .u64 bb) rfl rfl _ _ KA.out (bC lbb.out) (qN lbb.out) (aG _ _) (fun v9 hP=>sH ?_))
 refine aH ?_
 have F1:Hid _:=F.out.put0 hP
 clear hP KA F
 have F:Hid _:=F1.out
 clear F1
 refine bE ?_
 have G0:Hid _:=F.out.at (mC _ mQ)
 have G1:Hid _:=F.out.at mQ
 go_wp2_with(with_reducible refine aJ ?_;first
  | refine wpLr rfl 211 _ rfl baa rfl _ (Iv .u64 aa) _ _ G0.out underlying211 rfl (bC laa.out) ?_
  | refine wpLr rfl 211 _ rfl bbb rfl _ (Iv .u64 bb) _ _ G1.out underlying211 rfl (bC lbb.out) ?_)
 clear G0 G1
 refine(Cg.out _).mono ?_
 rintro e9 v10 ⟨rfl,hb⟩
 have F1:Hid _:=F.out.later hb (nQ _)
 clear hb F
 have F:Hid _:=F1.out
 clear F1
 have KA:Hid ((v10.alloc (.cells (Iv .u64 [0,0,0,0,0]) 211)).heap[v10.heap.size]? =some (.cells (Iv .u64 [0,0,0,0,0]) 211)):=hAN _ _
 go_wp2_with(refine wpPr rfl 211 _ _ rfl v10.heap.size (Iv .u64 g) rfl rfl _ _ KA.out (bC lg.out) (qN lg.out) (aG _ _) (fun v11 hP=>sH ?_))
 refine aH ?_
 have F1:=F.out.newRow hP
 obtain⟨bg,eb⟩:∃x,x=v10.heap.size:=⟨_,rfl⟩
 rw[←eb]at F1⊢
 clear eb F hP KA
 have F:Hid _:=F1
 clear F1
 go_wp2_with fail
 have FD:Hid _:=F.out.drew
 clear F
 refine wRt 9 _ (.held [0,1,3,4] tq23) kJ (by kernel_rfl) FD.out ?_
 obtain⟨V,eV⟩:∃V,V=v11.drew:=⟨_,rfl⟩
 rw[←eV]at FD⊢
 clear eV
 refine wTh ?_
 simp only[oS]
 refine wqLr rfl 211 _ rfl bd rfl _ (Iv .u64 d) _ _ (fun w' hw'=>hw'.at (mC _ (mC _ (mC _ mQ)))) underlying211 rfl (bC ld.out) ?_
 simp only[Act.put,sU,sJ,sY]
 refine wqLr rfl 211 _ rfl ba rfl _ (Iv .u64 a) _ _ (fun w' hw'=>hw'.at (mC _ (mC _ (mC _ (mC _ (mC _ (mC _ mQ))))))) underlying211 rfl (bC la.out) ?_
 simp only[Act.put,sU,sJ,sY]
 refine wqLr rfl 211 _ rfl bc rfl _ (Iv .u64 c) _ _ (fun w' hw'=>hw'.at (mC _ (mC _ (mC _ (mC _ mQ))))) underlying211 rfl (bC lc.out) ?_
 simp only[Act.put,sU,sJ,sY]
 refine wqLr rfl 211 _ rfl bb_ rfl _ (Iv .u64 b) _ _ (fun w' hw'=>hw'.at (mC _ (mC _ (mC _ (mC _ (mC _ mQ)))))) underlying211 rfl (bC lb.out) ?_
 simp only[Act.put,sU,sJ,sY]
 refine wqN ?_
 apply QH FD tq12
 intro h211
 apply QH FD tq16
 intro h111
 apply yH FD tq14
 intro h201
 apply yH FD tq13
 intro h210
 apply QH FD tq20
 intro h011
 apply yH FD tq18
 intro h101
 apply yH FD tq17
 intro h110
 apply ZI FD tq15
 intro h200
 apply yH FD tq22
 intro h001
 apply yH FD tq21
 intro h010
 apply ZI FD tq19
 intro h100
 have H:Hid _:=FD.out
 ·skip
  refine wTf3 ?_ ?_ ?_
  ·skip
   refine trC Cda H rfl rfl (by kernel_rfl) (fun _ q=>q) fun v q=>?_
   simp only[Act.put,sU,sJ,sY]
   exact h100.out  _ q
  ·skip
   refine lN H rfl rfl rfl (fun _ q=>q) fun c0 v q=>?_
   simp only[Act.put,sU,sJ,sY]
   exact h010.out c0 _ q
  ·skip
   refine lN H rfl rfl rfl (fun _ q=>q) fun c1 v q=>?_
   simp only[Act.put,sU,sJ,sY]
   exact h001.out c1 _ q
 ·skip
  intro  v H0
  have H:Hid _:=H0
  clear H0
  refine wTf3 ?_ ?_ ?_
  ·skip
   refine trC Ccb H rfl rfl (by kernel_rfl) (fun _ q=>q) fun v q=>?_
   simp only[Act.put,sU,sJ,sY]
   exact h200.out  _ q
  ·skip
   refine lN H rfl rfl rfl (fun _ q=>q) fun c0 v q=>?_
   simp only[Act.put,sU,sJ,sY]
   exact h110.out c0 _ q
  ·skip
   refine lN H rfl rfl rfl (fun _ q=>q) fun c1 v q=>?_
   simp only[Act.put,sU,sJ,sY]
   exact h101.out c1 _ q
 ·skip
  intro c0 v H0
  have H:Hid _:=H0
  clear H0
  refine wTf ?_ ?_
  ·skip
   refine trC Cda H rfl rfl (by kernel_rfl) (fun _ q=>q.tail) fun v q=>?_
   simp only[Act.put,sU,sJ,sY]
   exact h110.out c0 _ q
  ·skip
   refine lN H rfl rfl rfl (fun _ q=>q.tail) fun c1 v q=>?_
   simp only[Act.put,sU,sJ,sY]
   exact h011.out c0 c1 _ q
 ·skip
  intro c1 v H0
  have H:Hid _:=H0
  clear H0
  refine wTf ?_ ?_
  ·skip
   refine trC Cda H rfl rfl (by kernel_rfl) (fun _ q=>q.tail) fun v q=>?_
   simp only[Act.put,sU,sJ,sY]
   exact h101.out c1 _ q
  ·skip
   refine lN H rfl rfl rfl (fun _ q=>q.tail) fun c0 v q=>?_
   simp only[Act.put,sU,sJ,sY]
   exact h011.out c0 c1 _ q.two
 ·skip
  intro  v H0
  have H:Hid _:=H0
  clear H0
  refine wTf ?_ ?_
  ·skip
   refine lN H rfl rfl rfl (fun _ q=>q) fun c0 v q=>?_
   simp only[Act.put,sU,sJ,sY]
   exact h210.out c0 _ q
  ·skip
   refine lN H rfl rfl rfl (fun _ q=>q) fun c1 v q=>?_
   simp only[Act.put,sU,sJ,sY]
   exact h201.out c1 _ q
 ·skip
  intro c0 v H0
  have H:Hid _:=H0
  clear H0
  refine wTf ?_ ?_
  ·skip
   refine trC Ccb H rfl rfl (by kernel_rfl) (fun _ q=>q.tail) fun v q=>?_
   simp only[Act.put,sU,sJ,sY]
   exact h210.out c0 _ q
  ·skip
   refine lN H rfl rfl rfl (fun _ q=>q.tail) fun c1 v q=>?_
   simp only[Act.put,sU,sJ,sY]
   exact h111.out c0 c1 _ q
 ·skip
  intro c1 v H0
  have H:Hid _:=H0
  clear H0
  refine wTf ?_ ?_
  ·skip
   refine trC Ccb H rfl rfl (by kernel_rfl) (fun _ q=>q.tail) fun v q=>?_
   simp only[Act.put,sU,sJ,sY]
   exact h201.out c1 _ q
  ·skip
   refine lN H rfl rfl rfl (fun _ q=>q.tail) fun c0 v q=>?_
   simp only[Act.put,sU,sJ,sY]
   exact h111.out c0 c1 _ q.two
 ·skip
  intro c0 c1 v H0
  have H:Hid _:=H0
  clear H0
  refine wTt ?_
  refine trC Cda H rfl rfl (by kernel_rfl) (fun _ q=>q.tail.tail) fun v q=>?_
  simp only[Act.put,sU,sJ,sY]
  exact h111.out c0 c1 _ q
 ·skip
  intro c0 v H0
  have H:Hid _:=H0
  clear H0
  refine wTt ?_
  refine lN H rfl rfl rfl (fun _ q=>q.tail) fun c1 v q=>?_
  simp only[Act.put,sU,sJ,sY]
  exact h211.out c0 c1 _ q
 ·skip
  intro c1 v H0
  have H:Hid _:=H0
  clear H0
  refine wTt ?_
  refine lN H rfl rfl rfl (fun _ q=>q.tail) fun c0 v q=>?_
  simp only[Act.put,sU,sJ,sY]
  exact h211.out c0 c1 _ q.two
 ·skip
  intro c0 c1 v H0
  have H:Hid _:=H0
  clear H0
  refine wTt ?_
  refine trC Ccb H rfl rfl (by kernel_rfl) (fun _ q=>q.tail.tail) fun v q=>?_
  simp only[Act.put,sU,sJ,sY]
  exact h211.out c0 c1 _ q
 intro bda bcb v11 H0
 have H:Hid _:=H0
 clear H0
 try clear FD
 have F:Hid _:=H.out
 clear H
 refine wTt ?_
 simp only[oS]
 have KA:Hid _:=F.out.at (mC _ mQ)
 go_wp2_with(refine wpPr rfl 211 _ _ rfl bda (Iv .u64 da) rfl rfl _ _ KA.out (bC lda.out) (qN lda.out) (aG _ _) (fun v13 hP=>sH ?_))
 refine aH ?_
 have F1:Hid _:=F.out.put1 hP
 clear hP KA F
 have F:Hid _:=F1.out
 clear F1
 go_wp2_with fail
 refine⟨F.out.tail.tail,?_⟩
 refine wTl ?_
 simp only[oS]
 have KA:Hid _:=F.out.at mQ
 go_wp2_with(refine wpPr rfl 211 _ _ rfl bcb (Iv .u64 cb) rfl rfl _ _ KA.out (bC lcb.out) (qN lcb.out) (aG _ _) (fun v14 hP=>sH ?_))
 refine aH ?_
 have F1:Hid _:=F.out.put0 hP
 clear hP KA F
 have F:Hid _:=F1.out
 clear F1
 refine bE ?_
 go_wp2_with fail
 have FD:Hid _:=F.out.drew
 clear F
 refine wRt 9 _ (.held [0,1,3,4] tq23) kJ (by kernel_rfl) FD.out ?_
 obtain⟨V,eV⟩:∃V,V=v14.drew:=⟨_,rfl⟩
 rw[←eV]at FD⊢
 clear eV
 refine wTh ?_
 simp only[oS]
 refine wqLr rfl 211 _ rfl bda rfl _ (Iv .u64 da) _ _ (fun w' hw'=>hw'.at (mC _ mQ)) underlying211 rfl (bC lda.out) ?_
 simp only[Act.put,sU,sJ,sY]
 refine wqLr rfl 211 _ rfl bcb rfl _ (Iv .u64 cb) _ _ (fun w' hw'=>hw'.at mQ) underlying211 rfl (bC lcb.out) ?_
 simp only[Act.put,sU,sJ,sY]
 refine wqLr rfl 211 _ rfl bda rfl _ (Iv .u64 da) _ _ (fun w' hw'=>hw'.at (mC _ mQ)) underlying211 rfl (bC lda.out) ?_
 simp only[Act.put,sU,sJ,sY]
 refine wqLr rfl 211 _ rfl bcb rfl _ (Iv .u64 cb) _ _ (fun w' hw'=>hw'.at mQ) underlying211 rfl (bC lcb.out) ?_
 simp only[Act.put,sU,sJ,sY]
 refine wqN ?_
 apply QH FD tq12
 intro h211
 apply QH FD tq16
 intro h111
 apply yH FD tq14
 intro h201
 apply yH FD tq13
 intro h210
 apply QH FD tq20
 intro h011
 apply yH FD tq18
 intro h101
 apply yH FD tq17
 intro h110
 apply ZI FD tq15
 intro h200
 apply yH FD tq22
 intro h001
 apply yH FD tq21
 intro h010
 apply ZI FD tq19
 intro h100
 have H:Hid _:=FD.out
 ·skip
  refine wTf3 ?_ ?_ ?_
  ·skip
   refine trC Cs H rfl rfl (by kernel_rfl) (fun _ q=>q) fun v q=>?_
   simp only[Act.put,sU,sJ,sY]
   exact h100.out  _ q
  ·skip
   refine lN H rfl rfl rfl (fun _ q=>q) fun c0 v q=>?_
   simp only[Act.put,sU,sJ,sY]
   exact h010.out c0 _ q
  ·skip
   refine lN H rfl rfl rfl (fun _ q=>q) fun c1 v q=>?_
   simp only[Act.put,sU,sJ,sY]
   exact h001.out c1 _ q
 ·skip
  intro  v H0
  have H:Hid _:=H0
  clear H0
  refine wTf3 ?_ ?_ ?_
  ·skip
   refine trC Cf H rfl rfl (by kernel_rfl) (fun _ q=>q) fun v q=>?_
   simp only[Act.put,sU,sJ,sY]
   exact h200.out  _ q
  ·skip
   refine lN H rfl rfl rfl (fun _ q=>q) fun c0 v q=>?_
   simp only[Act.put,sU,sJ,sY]
   exact h110.out c0 _ q
  ·skip
   refine lN H rfl rfl rfl (fun _ q=>q) fun c1 v q=>?_
   simp only[Act.put,sU,sJ,sY]
   exact h101.out c1 _ q
 ·skip
  intro c0 v H0
  have H:Hid _:=H0
  clear H0
  refine wTf ?_ ?_
  ·skip
   refine trC Cs H rfl rfl (by kernel_rfl) (fun _ q=>q.tail) fun v q=>?_
   simp only[Act.put,sU,sJ,sY]
   exact h110.out c0 _ q
  ·skip
   refine lN H rfl rfl rfl (fun _ q=>q.tail) fun c1 v q=>?_
   simp only[Act.put,sU,sJ,sY]
   exact h011.out c0 c1 _ q
 ·skip
  intro c1 v H0
  have H:Hid _:=H0
  clear H0
  refine wTf ?_ ?_
  ·skip
   refine trC Cs H rfl rfl (by kernel_rfl) (fun _ q=>q.tail) fun v q=>?_
   simp only[Act.put,sU,sJ,sY]
   exact h101.out c1 _ q
  ·skip
   refine lN H rfl rfl rfl (fun _ q=>q.tail) fun c0 v q=>?_
   simp only[Act.put,sU,sJ,sY]
   exact h011.out c0 c1 _ q.two
 ·skip
  intro  v H0
  have H:Hid _:=H0
  clear H0
  refine wTf ?_ ?_
  ·skip
   refine lN H rfl rfl rfl (fun _ q=>q) fun c0 v q=>?_
   simp only[Act.put,sU,sJ,sY]
   exact h210.out c0 _ q
  ·skip
   refine lN H rfl rfl rfl (fun _ q=>q) fun c1 v q=>?_
   simp only[Act.put,sU,sJ,sY]
   exact h201.out c1 _ q
 ·skip
  intro c0 v H0
  have H:Hid _:=H0
  clear H0
  refine wTf ?_ ?_
  ·skip
   refine trC Cf H rfl rfl (by kernel_rfl) (fun _ q=>q.tail) fun v q=>?_
   simp only[Act.put,sU,sJ,sY]
   exact h210.out c0 _ q
  ·skip
   refine lN H rfl rfl rfl (fun _ q=>q.tail) fun c1 v q=>?_
   simp only[Act.put,sU,sJ,sY]
   exact h111.out c0 c1 _ q
 ·skip
  intro c1 v H0
  have H:Hid _:=H0
  clear H0
  refine wTf ?_ ?_
  ·skip
   refine trC Cf H rfl rfl (by kernel_rfl) (fun _ q=>q.tail) fun v q=>?_
   simp only[Act.put,sU,sJ,sY]
   exact h201.out c1 _ q
  ·skip
   refine lN H rfl rfl rfl (fun _ q=>q.tail) fun c0 v q=>?_
   simp only[Act.put,sU,sJ,sY]
   exact h111.out c0 c1 _ q.two
 ·skip
  intro c0 c1 v H0
  have H:Hid _:=H0
  clear H0
  refine wTt ?_
  refine trC Cs H rfl rfl (by kernel_rfl) (fun _ q=>q.tail.tail) fun v q=>?_
  simp only[Act.put,sU,sJ,sY]
  exact h111.out c0 c1 _ q
 ·skip
  intro c0 v H0
  have H:Hid _:=H0
  clear H0
  refine wTt ?_
  refine lN H rfl rfl rfl (fun _ q=>q.tail) fun c1 v q=>?_
  simp only[Act.put,sU,sJ,sY]
  exact h211.out c0 c1 _ q
 ·skip
  intro c1 v H0
  have H:Hid _:=H0
  clear H0
  refine wTt ?_
  refine lN H rfl rfl rfl (fun _ q=>q.tail) fun c0 v q=>?_
  simp only[Act.put,sU,sJ,sY]
  exact h211.out c0 c1 _ q.two
 ·skip
  intro c0 c1 v H0
  have H:Hid _:=H0
  clear H0
  refine wTt ?_
  refine trC Cf H rfl rfl (by kernel_rfl) (fun _ q=>q.tail.tail) fun v q=>?_
  simp only[Act.put,sU,sJ,sY]
  exact h211.out c0 c1 _ q
 intro bs bf v14 H0
 have H:Hid _:=H0
 clear H0
 try clear FD
 have F:Hid _:=H.out
 clear H
 refine wTt ?_
 simp only[oS]
 have KA:Hid _:=F.out.at (mC _ mQ)
 go_wp2_with(refine wpPr rfl 211 _ _ rfl bs (Iv .u64 s) rfl rfl _ _ KA.out (bC ls.out) (qN ls.out) (aG _ _) (fun v16 hP=>sH ?_))
 refine aH ?_
 have F1:Hid _:=F.out.put1 hP
 clear hP KA F
 have F:Hid _:=F1.out
 clear F1
 go_wp2_with fail
 refine⟨F.out.tail.tail,?_⟩
 refine wTl ?_
 simp only[oS]
 have KA:Hid _:=F.out.at mQ
 go_wp2_with(refine wpPr rfl 211 _ _ rfl bf (Iv .u64 f) rfl rfl _ _ KA.out (bC lf.out) (qN lf.out) (aG _ _) (fun v17 hP=>sH ?_))
 refine aH ?_
 have F1:Hid _:=F.out.put0 hP
 clear hP KA F
 have F:Hid _:=F1.out
 clear F1
 refine bE ?_
 have G0:Hid _:=F.out.at (mC _ (mC _ (mC _ (mC _ (mC _ (mC _ mQ))))))
 have G1:Hid _:=F.out.at (mC _ (mC _ (mC _ (mC _ (mC _ mQ)))))
 go_wp2_with(with_reducible refine aJ ?_;first
  | refine wpLr rfl 211 _ rfl baa rfl _ (Iv .u64 aa) _ _ G0.out underlying211 rfl (bC laa.out) ?_
  | refine wpLr rfl 211 _ rfl bbb rfl _ (Iv .u64 bb) _ _ G1.out underlying211 rfl (bC lbb.out) ?_)
 clear G0 G1
 refine(Cx1.out _).mono ?_
 rintro e9 v18 ⟨rfl,hb⟩
 have F1:Hid _:=F.out.later hb (nQ _)
 clear hb F
 have F:Hid _:=F1.out
 clear F1
 have KA:Hid _:=F.out.at (mC _ (mC _ (mC _ (mC _ (mC _ (mC _ (mC _ (mC _ (mC _ (mC _ (mC _ (mC _ (mC _ (mC _ mQ))))))))))))))
 have hlq:Hid (x1.length=px.length):=by show _=_;rw[lx1.out,lpx.out]
 go_wp2_with(refine vH rfl 211 _ _ rfl (w.heap.size+1) .u64 x1 px pz rfl rfl _ KA.out (jI lx1.out) hlq.out (fun v19 hP=>sH ?_))
 refine aH ?_
 have F1:Hid _:=F.out.put14 hP
 clear hP KA F hlq
 have F:Hid _:=F1.out
 clear F1
 go_wp2_with fail
 have F1:Hid _:=F.out.drew
 clear F
 have F:Hid _:=F1.out
 clear F1
 refine wRt 8 (fun w'=>∃x:Wp (fun v=>Rn w [rE bf f,rE bs s,rE bcb cb,rE bda da,rE bg g,rE bbb bb,rE baa aa,rE bd d,rE bc c,rE bb_ b,rE ba a,rR (w.heap.size+1+1+1+1) (aA 10),rR (w.heap.size+1+1+1) (aA 10),rR (w.heap.size+1+1) (qx++qz),rR (w.heap.size+1) (x1++pz),rE w.heap.size u] v),w'=x.w) (.held [0,1,2,3] (.tail 4 (.tail 5 (.tail 6 (.held [7] (.last 8 .done)))))) kJ (by kernel_rfl) ⟨⟨_,F.out⟩,rfl⟩ ?_
 refine wTh ?_
 simp only[oS]
 refine wqLr rfl 211 _ rfl bg rfl _ (Iv .u64 g) _ _ (fun w' hw'=>by obtain⟨x,rfl⟩:=hw';exact x.p.at (mC _ (mC _ (mC _ (mC _ mQ))))) underlying211 rfl (bC lg.out) ?_
 simp only[Act.put,sU,sJ,sY]
 refine wqLr rfl 211 _ rfl baa rfl _ (Iv .u64 aa) _ _ (fun w' hw'=>by obtain⟨x,rfl⟩:=hw';exact x.p.at (mC _ (mC _ (mC _ (mC _ (mC _ (mC _ mQ))))))) underlying211 rfl (bC laa.out) ?_
 simp only[Act.put,sU,sJ,sY]
 refine wqLr rfl 211 _ rfl bg rfl _ (Iv .u64 g) _ _ (fun w' hw'=>by obtain⟨x,rfl⟩:=hw';exact x.p.at (mC _ (mC _ (mC _ (mC _ mQ))))) underlying211 rfl (bC lg.out) ?_
 simp only[Act.put,sU,sJ,sY]
 refine bT rfl 211 _ rfl (Iv .u64 k1) _ (by kernel_rfl) HBU.out ?_
 simp only[Act.put,sU,sJ,sY]
 refine wqN ?_
 refine wTt ?_
 simp only[oS]
 go_wp2_with fail
 refine(Ct1.out _).mono ?_
 rintro e9 v20 ⟨rfl,hb⟩
 have F1:Hid _:=F.out.later hb (nQ _)
 clear hb F
 have F:Hid _:=F1.out
 clear F1
 go_wp2_with fail
 refine⟨⟨⟨_,F.out⟩,rfl⟩,?_⟩
 refine wTt ?_
 simp only[oS]
 go_wp2_with fail
 refine(Ct2.out _).mono ?_
 rintro e9 v21 ⟨rfl,hb⟩
 have F1:Hid _:=F.out.later hb (nQ _)
 clear hb F
 have F:Hid _:=F1.out
 clear F1
 go_wp2_with fail
 refine⟨⟨⟨_,F.out⟩,rfl⟩,?_⟩
 refine wTt ?_
 simp only[oS]
 go_wp2_with fail
 refine(Cz1.out _).mono ?_
 rintro e9 v22 ⟨rfl,hb⟩
 have F1:Hid _:=F.out.later hb (nQ _)
 clear hb F
 have F:Hid _:=F1.out
 clear F1
 go_wp2_with fail
 refine⟨⟨⟨_,F.out⟩,rfl⟩,?_⟩
 refine wTh ?_
 simp only[oS]
 refine aB rfl (.pointer (some ⟨(w.heap.size+1),5,none⟩)) (fun w'=>by kernel_rfl) ?_
 simp only[Act.put,sU,sJ,sY]
 refine wqN ?_
 refine wTl ?_
 simp only[oS]
 have KA:Hid _:=F.out.at (mC _ (mC _ (mC _ (mC _ (mC _ (mC _ (mC _ (mC _ (mC _ (mC _ (mC _ (mC _ (mC _ (mC _ mQ))))))))))))))
 have hlq:Hid (z1.length=pz.length):=by show _=_;rw[lz1.out,lpz.out]
 go_wp2_with(refine vI rfl 211 _ _ rfl (w.heap.size+1) 5 .u64 z1 x1 pz rfl rfl _ KA.out (jI lz1.out) lx1.out hlq.out (fun v23 hP=>sH ?_))
 refine aH ?_
 have F1:Hid _:=F.out.put14 hP
 clear hP KA F hlq
 have F:Hid _:=F1.out
 clear F1
 refine bE ?_
 have G0:Hid _:=F.out.at (mC _ mQ)
 go_wp2_with(with_reducible refine aJ ?_;first
  | refine wpLr rfl 211 _ rfl bs rfl _ (Iv .u64 s) _ _ G0.out underlying211 rfl (bC ls.out) ?_)
 clear G0
 refine(Cx2.out _).mono ?_
 rintro e9 v24 ⟨rfl,hb⟩
 have F1:Hid _:=F.out.later hb (nQ _)
 clear hb F
 have F:Hid _:=F1.out
 clear F1
 have KA:Hid _:=F.out.at (mC _ (mC _ (mC _ (mC _ (mC _ (mC _ (mC _ (mC _ (mC _ (mC _ (mC _ (mC _ (mC _ mQ)))))))))))))
 have hlq:Hid (x2.length=qx.length):=by show _=_;rw[lx2.out,lqx.out]
 go_wp2_with(refine vH rfl 211 _ _ rfl (w.heap.size+1+1) .u64 x2 qx qz rfl rfl _ KA.out (jI lx2.out) hlq.out (fun v25 hP=>sH ?_))
 refine aH ?_
 have F1:Hid _:=F.out.put13 hP
 clear hP KA F hlq
 have F:Hid _:=F1.out
 clear F1
 go_wp2_with fail
 have F1:Hid _:=F.out.drew
 clear F
 have F:Hid _:=F1.out
 clear F1
 refine wRt 6 (fun w'=>∃x:Wp (fun v=>Rn w [rE bf f,rE bs s,rE bcb cb,rE bda da,rE bg g,rE bbb bb,rE baa aa,rE bd d,rE bc c,rE bb_ b,rE ba a,rR (w.heap.size+1+1+1+1) (aA 10),rR (w.heap.size+1+1+1) (aA 10),rR (w.heap.size+1+1) (x2++qz),rR (w.heap.size+1) (x1++z1),rE w.heap.size u] v),w'=x.w) (.held [0,1,2] (.tail 3 (.tail 4 (.held [5] (.last 6 .done))))) kJ (by kernel_rfl) ⟨⟨_,F.out⟩,rfl⟩ ?_
 refine wTh ?_
 simp only[oS]
 refine wqLr rfl 211 _ rfl w.heap.size rfl _ (Iv .u64 u) _ _ (fun w' hw'=>by obtain⟨x,rfl⟩:=hw';exact x.p.at (mC _ (mC _ (mC _ (mC _ (mC _ (mC _ (mC _ (mC _ (mC _ (mC _ (mC _ (mC _ (mC _ (mC _ (mC _ mQ)))))))))))))))) underlying211 rfl (bC lu.out) ?_
 simp only[Act.put,sU,sJ,sY]
 refine wqLr rfl 211 _ rfl bf rfl _ (Iv .u64 f) _ _ (fun w' hw'=>by obtain⟨x,rfl⟩:=hw';exact x.p.at mQ) underlying211 rfl (bC lf.out) ?_
 simp only[Act.put,sU,sJ,sY]
 refine wqLr rfl 211 _ rfl bf rfl _ (Iv .u64 f) _ _ (fun w' hw'=>by obtain⟨x,rfl⟩:=hw';exact x.p.at mQ) underlying211 rfl (bC lf.out) ?_
 simp only[Act.put,sU,sJ,sY]
 refine wqN ?_
 refine wTt ?_
 simp only[oS]
 go_wp2_with fail
 refine(Cff.out _).mono ?_
 rintro e9 v26 ⟨rfl,hb⟩
 have F1:Hid _:=F.out.later hb (nQ _)
 clear hb F
 have F:Hid _:=F1.out
 clear F1
 go_wp2_with fail
 refine⟨⟨⟨_,F.out⟩,rfl⟩,?_⟩
 refine wTt ?_
 simp only[oS]
 go_wp2_with fail
 refine(Cz2.out _).mono ?_
 rintro e9 v27 ⟨rfl,hb⟩
 have F1:Hid _:=F.out.later hb (nQ _)
 clear hb F
 have F:Hid _:=F1.out
 clear F1
 go_wp2_with fail
 refine⟨⟨⟨_,F.out⟩,rfl⟩,?_⟩
 refine wTh ?_
 simp only[oS]
 refine aB rfl (.pointer (some ⟨(w.heap.size+1+1),5,none⟩)) (fun w'=>by kernel_rfl) ?_
 simp only[Act.put,sU,sJ,sY]
 refine wqN ?_
 refine wTl ?_
 simp only[oS]
 have KA:Hid _:=F.out.at (mC _ (mC _ (mC _ (mC _ (mC _ (mC _ (mC _ (mC _ (mC _ (mC _ (mC _ (mC _ (mC _ mQ)))))))))))))
 have hlq:Hid (z2.length=qz.length):=by show _=_;rw[lz2.out,lqz.out]
 go_wp2_with(refine vI rfl 211 _ _ rfl (w.heap.size+1+1) 5 .u64 z2 x2 qz rfl rfl _ KA.out (jI lz2.out) lx2.out hlq.out (fun v28 hP=>sH ?_))
 refine aH ?_
 have F1:Hid _:=F.out.put13 hP
 clear hP KA F hlq
 have F:Hid _:=F1.out
 clear F1
 refine bE ?_
 have lr1:Hid ((x1++z1).length=10):=by show _=_;rw[lQ,lx1.out,lz1.out]
 have lr2:Hid ((x2++z2).length=10):=by show _=_;rw[lQ,lx2.out,lz2.out]
 go_wp2_with fail
 have F1:Hid _:=F.out.drew
 clear F
 have F:Hid _:=F1.out
 clear F1
 refine wRt 3 (fun w'=>∃x:Wp (fun v=>Rn w [rE bf f,rE bs s,rE bcb cb,rE bda da,rE bg g,rE bbb bb,rE baa aa,rE bd d,rE bc c,rE bb_ b,rE ba a,rR (w.heap.size+1+1) (x2++z2),rR (w.heap.size+1) (x1++z1),rE w.heap.size u] v),w'=x.w) (.held [0,1] (.tail 2 (.last 3 .done))) kJ (by kernel_rfl) ⟨⟨_,F.out.sub (by repeat(first|exact List.Sublist.slnil|apply List.Sublist.cons_cons|apply List.Sublist.cons))⟩,rfl⟩ ?_
 refine wTh ?_
 simp only[oS]
 refine wqLr rfl 213 _ rfl (w.heap.size+1) rfl _ (Iv .u64 (x1++z1)) _ _ (fun w' hw'=>by obtain⟨x,rfl⟩:=hw';exact x.p.at (mC _ (mC _ (mC _ (mC _ (mC _ (mC _ (mC _ (mC _ (mC _ (mC _ (mC _ (mC _ mQ))))))))))))) underlying213 rfl (dA lr1.out) ?_
 simp only[Act.put,sU,sJ,sY]
 refine wqLr rfl 213 _ rfl (w.heap.size+1+1) rfl _ (Iv .u64 (x2++z2)) _ _ (fun w' hw'=>by obtain⟨x,rfl⟩:=hw';exact x.p.at (mC _ (mC _ (mC _ (mC _ (mC _ (mC _ (mC _ (mC _ (mC _ (mC _ (mC _ mQ)))))))))))) underlying213 rfl (dA lr2.out) ?_
 simp only[Act.put,sU,sJ,sY]
 refine wqN ?_
 refine wTt ?_
 simp only[oS]
 have KA:Hid _:=F.out.at (mC _ (mC _ (mC _ (mC _ (mC _ (mC _ (mC _ (mC _ (mC _ (mC _ (mC _ (mC _ mQ))))))))))))
 go_wp2_with(refine wpPr rfl 213 _ _ rfl (w.heap.size+1+1+1) (Iv .u64 (x1++z1)) rfl rfl _ _ KA.out (dA lr1.out) (AM lr1.out) (aG _ _) (fun v29 hP=>sH ?_))
 refine aH ?_
 have F1:Hid _:=F.out.put12 hP
 clear hP KA F
 have F:Hid _:=F1.out
 clear F1
 go_wp2_with fail
 refine⟨⟨⟨_,F.out.sub (by repeat(first|exact List.Sublist.slnil|apply List.Sublist.cons_cons|apply List.Sublist.cons))⟩,rfl⟩,?_⟩
 refine wTl ?_
 simp only[oS]
 have KA:Hid _:=F.out.at (mC _ (mC _ (mC _ (mC _ (mC _ (mC _ (mC _ (mC _ (mC _ (mC _ (mC _ mQ)))))))))))
 go_wp2_with(refine wpPr rfl 213 _ _ rfl (w.heap.size+1+1+1+1) (Iv .u64 (x2++z2)) rfl rfl _ _ KA.out (dA lr2.out) (AM lr2.out) (aG _ _) (fun v30 hP=>sH ?_))
 refine aH ?_
 have F1:Hid _:=F.out.put11 hP
 clear hP KA F
 have F:Hid _:=F1.out
 clear F1
 refine bE ?_
 have M1:=F.out.at (mC _ (mC _ (mC _ (mC _ (mC _ (mC _ (mC _ (mC _ (mC _ (mC _ (mC _ (mC _ mQ))))))))))))
 have M2:=F.out.at (mC _ (mC _ (mC _ (mC _ (mC _ (mC _ (mC _ (mC _ (mC _ (mC _ (mC _ mQ)))))))))))
 have B9:=F.out.bel
 clear F
 obtain⟨r1,er1⟩:∃r,x1++z1=r:=⟨_,rfl⟩
 obtain⟨r2,er2⟩:∃r,x2++z2=r:=⟨_,rfl⟩
 rw[er1]at M1 lr1
 rw[er2]at M2 lr2
 have E1:Hid _:=er1
 have E2:Hid _:=er2
 clear er1 er2
 go_wp2
 exact bodyPost_ret (v:=.tuple #[.agg (Iv .u64 r1),.agg (Iv .u64 r2)]) (iP rfl _ _ _ _ _ _ (Iv .u64 r1) (Iv .u64 r2) _ _ rfl rfl M1 M2 underlying213 rfl (dA lr1.out) underlying213 rfl (dA lr2.out)) rfl ⟨by rw[E1.out,E2.out],B9⟩
end Go.Proofs.YtgcepckaolkeoaaGreatDoor
