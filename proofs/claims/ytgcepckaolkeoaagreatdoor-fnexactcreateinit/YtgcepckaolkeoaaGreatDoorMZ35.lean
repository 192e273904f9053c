import Derived.Test.YtgcepckaolkeoaaGreatDoorMZ34
namespace Go.Proofs.YtgcepckaolkeoaaGreatDoor
open Go.RowKit
open Go.Proofs.Tryz
open Go renaming heap_alloc_new → hAN, wpList_load_row → wpLr, wpQuiet_nil → wqN
open Go.World renaming size_alloc → wU
open List renaming length_append → lQ, mem_cons_of_mem → mC, mem_cons_self → mQ
open Nat renaming le_refl → nQ
set_option linter.unusedVariables false
set_option maxRecDepth 100000 in
set_option maxHeartbeats 16000000 in
theorem tP (u px pz qx qz:List Int) (Hu:fY u) (Hpx:fY px) (Hpz:fY pz) (Hqx:fY qx) (Hqz:fY qz) (w:World):
 Calls prog 133 #[.agg (Iv .u64 u),.agg (Iv .u64 (px++pz)),.agg (Iv .u64 (qx++qz))] w fun e w'=>e=.returned (.tuple #[.agg (Iv .u64 ((mL u ⟨px,pz,qx,qz⟩).x1++(mL u ⟨px,pz,qx,qz⟩).z1)),.agg (Iv .u64 ((mL u ⟨px,pz,qx,qz⟩).x2++(mL u ⟨px,pz,qx,qz⟩).z2))])∧Below w.heap.size w w':=by
 have hzv:=WF
 have hzr:=OX
 have hbu:=NH 121665
 obtain⟨k1,ek1⟩:∃x:List Int,[121665,0,0,0,0]=x:=⟨_,rfl⟩
 have hk1:Hid (fY k1):=by show fY k1;rw[←ek1];exact(iX 121665 (by decide)).1
 have hpx:Hid (fY px):=Hpx
 have lpx:Hid (px.length=5):=hpx.out.length
 have hpz:Hid (fY pz):=Hpz
 have lpz:Hid (pz.length=5):=hpz.out.length
 have hqx:Hid (fY qx):=Hqx
 have lqx:Hid (qx.length=5):=hqx.out.length
 have hqz:Hid (fY qz):=Hqz
 have lqz:Hid (qz.length=5):=hqz.out.length
 have hu:Hid (fY u):=Hu
 have lu:Hid (u.length=5):=hu.out.length
 have lk1:Hid (k1.length=5):=hk1.out.length
 obtain⟨a,ea⟩:∃q9,rF px pz=q9:=⟨_,rfl⟩
 have ha:Hid (fY a):=by show fY a;rw[←ea];exact yG hpx.out hpz.out
 have la:Hid (a.length=5):=ha.out.length
 have Ca:Hid (∀W,Calls prog 144 #[.agg (Iv .u64 px),.agg (Iv .u64 pz)] W fun e w'=>e=.returned (.agg (Iv .u64 a))∧Below W.heap.size W w'):=fun W=>by rw[←ea];exact yH px pz hpx.out hpz.out W
 obtain⟨b,eb⟩:∃q9,mW px pz=q9:=⟨_,rfl⟩
 have hb:Hid (fY b):=by show fY b;rw[←eb];exact uX hpx.out hpz.out
 have lb:Hid (b.length=5):=hb.out.length
 have Cb:Hid (∀W,Calls prog 145 #[.agg (Iv .u64 px),.agg (Iv .u64 pz)] W fun e w'=>e=.returned (.agg (Iv .u64 b))∧Below W.heap.size W w'):=fun W=>by rw[←eb];exact uY px pz hpx.out hpz.out W
 obtain⟨c,ec⟩:∃q9,rF qx qz=q9:=⟨_,rfl⟩
 have hc:Hid (fY c):=by show fY c;rw[←ec];exact yG hqx.out hqz.out
 have lc:Hid (c.length=5):=hc.out.length
 have Cc:Hid (∀W,Calls prog 144 #[.agg (Iv .u64 qx),.agg (Iv .u64 qz)] W fun e w'=>e=.returned (.agg (Iv .u64 c))∧Below W.heap.size W w'):=fun W=>by rw[←ec];exact yH qx qz hqx.out hqz.out W
 obtain⟨d,ed⟩:∃q9,mW qx qz=q9:=⟨_,rfl⟩
 have hd:Hid (fY d):=by show fY d;rw[←ed];exact uX hqx.out hqz.out
 have ld:Hid (d.length=5):=hd.out.length
 have Cd:Hid (∀W,Calls prog 145 #[.agg (Iv .u64 qx),.agg (Iv .u64 qz)] W fun e w'=>e=.returned (.agg (Iv .u64 d))∧Below W.heap.size W w'):=fun W=>by rw[←ed];exact uY qx qz hqx.out hqz.out W
 obtain⟨aa,eaa⟩:∃q9,cW a a=q9:=⟨_,rfl⟩
 have haa:Hid (fY aa):=by show fY aa;rw[←eaa];exact jD ha.out ha.out
 have laa:Hid (aa.length=5):=haa.out.length
 have Caa:Hid (∀W,Calls prog 124 #[.agg (Iv .u64 a),.agg (Iv .u64 a)] W fun e w'=>e=.returned (.agg (Iv .u64 aa))∧Below W.heap.size W w'):=fun W=>by rw[←eaa];exact fX a a ha.out ha.out W
 obtain⟨bb,ebb⟩:∃q9,cW b b=q9:=⟨_,rfl⟩
 have hbb:Hid (fY bb):=by show fY bb;rw[←ebb];exact jD hb.out hb.out
 have lbb:Hid (bb.length=5):=hbb.out.length
 have Cbb:Hid (∀W,Calls prog 124 #[.agg (Iv .u64 b),.agg (Iv .u64 b)] W fun e w'=>e=.returned (.agg (Iv .u64 bb))∧Below W.heap.size W w'):=fun W=>by rw[←ebb];exact fX b b hb.out hb.out W
 obtain⟨g,eg⟩:∃q9,mW aa bb=q9:=⟨_,rfl⟩
 have hg:Hid (fY g):=by show fY g;rw[←eg];exact uX haa.out hbb.out
 have lg:Hid (g.length=5):=hg.out.length
 have Cg:Hid (∀W,Calls prog 145 #[.agg (Iv .u64 aa),.agg (Iv .u64 bb)] W fun e w'=>e=.returned (.agg (Iv .u64 g))∧Below W.heap.size W w'):=fun W=>by rw[←eg];exact uY aa bb haa.out hbb.out W
 obtain⟨da,eda⟩:∃q9,cW d a=q9:=⟨_,rfl⟩
 have hda:Hid (fY da):=by show fY da;rw[←eda];exact jD hd.out ha.out
 have lda:Hid (da.length=5):=hda.out.length
 have Cda:Hid (∀W,Calls prog 124 #[.agg (Iv .u64 d),.agg (Iv .u64 a)] W fun e w'=>e=.returned (.agg (Iv .u64 da))∧Below W.heap.size W w'):=fun W=>by rw[←eda];exact fX d a hd.out ha.out W
 obtain⟨cb,ecb⟩:∃q9,cW c b=q9:=⟨_,rfl⟩
 have hcb:Hid (fY cb):=by show fY cb;rw[←ecb];exact jD hc.out hb.out
 have lcb:Hid (cb.length=5):=hcb.out.length
 have Ccb:Hid (∀W,Calls prog 124 #[.agg (Iv .u64 c),.agg (Iv .u64 b)] W fun e w'=>e=.returned (.agg (Iv .u64 cb))∧Below W.heap.size W w'):=fun W=>by rw[←ecb];exact fX c b hc.out hb.out W
 obtain⟨s,es⟩:∃q9,rF da cb=q9:=⟨_,rfl⟩
 have hs:Hid (fY s):=by show fY s;rw[←es];exact yG hda.out hcb.out
 have ls:Hid (s.length=5):=hs.out.length
 have Cs:Hid (∀W,Calls prog 144 #[.agg (Iv .u64 da),.agg (Iv .u64 cb)] W fun e w'=>e=.returned (.agg (Iv .u64 s))∧Below W.heap.size W w'):=fun W=>by rw[←es];exact yH da cb hda.out hcb.out W
 obtain⟨f,ef⟩:∃q9,mW da cb=q9:=⟨_,rfl⟩
 have hf:Hid (fY f):=by show fY f;rw[←ef];exact uX hda.out hcb.out
 have lf:Hid (f.length=5):=hf.out.length
 have Cf:Hid (∀W,Calls prog 145 #[.agg (Iv .u64 da),.agg (Iv .u64 cb)] W fun e w'=>e=.returned (.agg (Iv .u64 f))∧Below W.heap.size W w'):=fun W=>by rw[←ef];exact uY da cb hda.out hcb.out W
 obtain⟨x1,ex1⟩:∃q9,cW aa bb=q9:=⟨_,rfl⟩
 have hx1:Hid (fY x1):=by show fY x1;rw[←ex1];exact jD haa.out hbb.out
 have lx1:Hid (x1.length=5):=hx1.out.length
 have Cx1:Hid (∀W,Calls prog 124 #[.agg (Iv .u64 aa),.agg (Iv .u64 bb)] W fun e w'=>e=.returned (.agg (Iv .u64 x1))∧Below W.heap.size W w'):=fun W=>by rw[←ex1];exact fX aa bb haa.out hbb.out W
 obtain⟨t1,et1⟩:∃q9,cW g k1=q9:=⟨_,rfl⟩
 have ht1:Hid (fY t1):=by show fY t1;rw[←et1];exact jD hg.out hk1.out
 have lt1:Hid (t1.length=5):=ht1.out.length
 have Ct1:Hid (∀W,Calls prog 124 #[.agg (Iv .u64 g),.agg (Iv .u64 k1)] W fun e w'=>e=.returned (.agg (Iv .u64 t1))∧Below W.heap.size W w'):=fun W=>by rw[←et1];exact fX g k1 hg.out hk1.out W
 obtain⟨t2,et2⟩:∃q9,rF aa t1=q9:=⟨_,rfl⟩
 have ht2:Hid (fY t2):=by show fY t2;rw[←et2];exact yG haa.out ht1.out
 have lt2:Hid (t2.length=5):=ht2.out.length
 have Ct2:Hid (∀W,Calls prog 144 #[.agg (Iv .u64 aa),.agg (Iv .u64 t1)] W fun e w'=>e=.returned (.agg (Iv .u64 t2))∧Below W.heap.size W w'):=fun W=>by rw[←et2];exact yH aa t1 haa.out ht1.out W
 obtain⟨z1,ez1⟩:∃q9,cW g t2=q9:=⟨_,rfl⟩
 have hz1:Hid (fY z1):=by show fY z1;rw[←ez1];exact jD hg.out ht2.out
 have lz1:Hid (z1.length=5):=hz1.out.length
 have Cz1:Hid (∀W,Calls prog 124 #[.agg (Iv .u64 g),.agg (Iv .u64 t2)] W fun e w'=>e=.returned (.agg (Iv .u64 z1))∧Below W.heap.size W w'):=fun W=>by rw[←ez1];exact fX g t2 hg.out ht2.out W
 obtain⟨x2,ex2⟩:∃q9,cW s s=q9:=⟨_,rfl⟩
 have hx2:Hid (fY x2):=by show fY x2;rw[←ex2];exact jD hs.out hs.out
 have lx2:Hid (x2.length=5):=hx2.out.length
 have Cx2:Hid (∀W,Calls prog 124 #[.agg (Iv .u64 s),.agg (Iv .u64 s)] W fun e w'=>e=.returned (.agg (Iv .u64 x2))∧Below W.heap.size W w'):=fun W=>by rw[←ex2];exact fX s s hs.out hs.out W
 obtain⟨ff,eff⟩:∃q9,cW f f=q9:=⟨_,rfl⟩
 have hff:Hid (fY ff):=by show fY ff;rw[←eff];exact jD hf.out hf.out
 have lff:Hid (ff.length=5):=hff.out.length
 have Cff:Hid (∀W,Calls prog 124 #[.agg (Iv .u64 f),.agg (Iv .u64 f)] W fun e w'=>e=.returned (.agg (Iv .u64 ff))∧Below W.heap.size W w'):=fun W=>by rw[←eff];exact fX f f hf.out hf.out W
 obtain⟨z2,ez2⟩:∃q9,cW u ff=q9:=⟨_,rfl⟩
 have hz2:Hid (fY z2):=by show fY z2;rw[←ez2];exact jD hu.out hff.out
 have lz2:Hid (z2.length=5):=hz2.out.length
 have Cz2:Hid (∀W,Calls prog 124 #[.agg (Iv .u64 u),.agg (Iv .u64 ff)] W fun e w'=>e=.returned (.agg (Iv .u64 z2))∧Below W.heap.size W w'):=fun W=>by rw[←ez2];exact fX u ff hu.out hff.out W
 have HR1:Hid ((mL u ⟨px,pz,qx,qz⟩).x1++(mL u ⟨px,pz,qx,qz⟩).z1=x1++z1):=by show _=_;rw[←ex1,←ez1,←et2,←et1,←eg,←eaa,←ebb,←ea,←eb,←ek1];rfl
 have HR2:Hid ((mL u ⟨px,pz,qx,qz⟩).x2++(mL u ⟨px,pz,qx,qz⟩).z2=x2++z2):=by show _=_;rw[←ex2,←ez2,←eff,←es,←ef,←eda,←ecb,←ea,←eb,←ec,←ed];rfl
 rw[HR1.out,HR2.out]
 rw[ek1]at hbu
 have HBU:Hid _:=hbu
 clear hbu
 clear ek1 Hpx Hpz Hqx Hqz Hu ea eb ec ed eaa ebb eg eda ecb es ef ex1 et1 et2 ez1 ex2 eff ez2
 have F0:Rn w [rR (w.heap.size+1+1+1+1) (aA 10),rR (w.heap.size+1+1+1) (aA 10),rR (w.heap.size+1+1) (qx++qz),rR (w.heap.size+1) (px++pz),rE w.heap.size u] (((((w.alloc (.cells (Iv .u64 u) 211)).alloc (.cells (Iv .u64 (px++pz)) 213)).alloc (.cells (Iv .u64 (qx++qz)) 213)).alloc (.cells (Iv .u64 (aA 10)) 213)).alloc (.cells (Iv .u64 (aA 10)) 213)):=((((((Rn.start w).alloc' w.heap.size (by first|rfl|simp only[wU]) _ _).alloc' (w.heap.size+1) (by first|rfl|simp only[wU]) _ _).alloc' (w.heap.size+1+1) (by first|rfl|simp only[wU]) _ _).alloc' (w.heap.size+1+1+1) (by first|rfl|simp only[wU]) _ _).alloc' (w.heap.size+1+1+1+1) (by first|rfl|simp only[wU]) _ _)
 obtain⟨W,hW⟩:∃W,(((((w.alloc (.cells (Iv .u64 u) 211)).alloc (.cells (Iv .u64 (px++pz)) 213)).alloc (.cells (Iv .u64 (qx++qz)) 213)).alloc (.cells (Iv .u64 (aA 10)) 213)).alloc (.cells (Iv .u64 (aA 10)) 213))=W:=⟨_,rfl⟩
 rw[hW]at F0
 have F:Hid (Rn w [rR (w.heap.size+1+1+1+1) (aA 10),rR (w.heap.size+1+1+1) (aA 10),rR (w.heap.size+1+1) (qx++qz),rR (w.heap.size+1) (px++pz),rE w.heap.size u] W):=F0
 have HW:Hid _:=hW
 clear hW F0
 go_enter func133,ntmps133
 go_wp2_with fail
 rw[HW.out]
 clear HW
 have FD:Hid _:=F.out.drew
 clear F
 refine wRt 13 (fun w'=>∃x:Wp (fun v=>Rn w [rR (w.heap.size+1+1+1+1) (aA 10),rR (w.heap.size+1+1+1) (aA 10),rR (w.heap.size+1+1) (qx++qz),rR (w.heap.size+1) (px++pz),rE w.heap.size u] v),w'=x.w) (.held [0,1,2,3,5,6,7,8] (.fork3 4 (.fork3 9 (.fork 10 (.tail 11 (.tail 12 (.last 13 .done))) 11 (.tail 10 (.tail 12 (.last 13 .done)))) 10 (.fork 9 (.tail 11 (.tail 12 (.last 13 .done))) 11 (.tail 9 (.tail 12 (.last 13 .done)))) 11 (.fork 9 (.tail 10 (.tail 12 (.last 13 .done))) 10 (.tail 9 (.tail 12 (.last 13 .done))))) 10 (.fork 4 (.fork 9 (.tail 11 (.tail 12 (.last 13 .done))) 11 (.tail 9 (.tail 12 (.last 13 .done)))) 11 (.tail 4 (.tail 9 (.tail 12 (.last 13 .done))))) 11 (.fork 4 (.fork 9 (.tail 10 (.tail 12 (.last 13 .done))) 10 (.tail 9 (.tail 12 (.last 13 .done)))) 10 (.tail 4 (.tail 9 (.tail 12 (.last 13 .done))))))) kJ (by kernel_rfl) ⟨⟨_,FD.out⟩,rfl⟩ ?_
 obtain⟨V,eV⟩:∃V,V=W.drew:=⟨_,rfl⟩
 rw[←eV]at FD⊢
 clear eV
 refine wTh ?_
 simp only[oS]
 refine aD rfl (.pointer (some ⟨(w.heap.size+1),0,none⟩)) (fun w'=>by kernel_rfl) ?_
 simp only[pS]
 refine wqLm rfl 211 _ rfl (w.heap.size+1) 0 rfl (px.map (Value.int .u64)) _ (fun w' hw'=>by obtain⟨x,rfl⟩:=hw';exact gS (x.p.at (mC _ (mC _ (mC _ mQ))))) underlying211 rfl (jI lpx.out) ?_
 simp only[pS]
 refine aD rfl (.pointer (some ⟨(w.heap.size+1),5,none⟩)) (fun w'=>by kernel_rfl) ?_
 simp only[pS]
 refine wqLm rfl 211 _ rfl (w.heap.size+1) 5 rfl (pz.map (Value.int .u64)) _ (fun w' hw'=>by obtain⟨x,rfl⟩:=hw';exact gT 5 lpx.out (x.p.at (mC _ (mC _ (mC _ mQ))))) underlying211 rfl (jI lpz.out) ?_
 simp only[pS]
 refine aD rfl (.pointer (some ⟨(w.heap.size+1),0,none⟩)) (fun w'=>by kernel_rfl) ?_
 simp only[pS]
 refine wqLm rfl 211 _ rfl (w.heap.size+1) 0 rfl (px.map (Value.int .u64)) _ (fun w' hw'=>by obtain⟨x,rfl⟩:=hw';exact gS (x.p.at (mC _ (mC _ (mC _ mQ))))) underlying211 rfl (jI lpx.out) ?_
 simp only[pS]
 refine aD rfl (.pointer (some ⟨(w.heap.size+1),5,none⟩)) (fun w'=>by kernel_rfl) ?_
 simp only[pS]
 refine wqLm rfl 211 _ rfl (w.heap.size+1) 5 rfl (pz.map (Value.int .u64)) _ (fun w' hw'=>by obtain⟨x,rfl⟩:=hw';exact gT 5 lpx.out (x.p.at (mC _ (mC _ (mC _ mQ))))) underlying211 rfl (jI lpz.out) ?_
 simp only[pS]
 refine wqN ?_
 apply iE (.tail 12 (.last 13 .done)) (fun c0 c1 v=>Rn w [rZ c1,rZ c0,rR (w.heap.size+1+1+1+1) (aA 10),rR (w.heap.size+1+1+1) (aA 10),rR (w.heap.size+1+1) (qx++qz),rR (w.heap.size+1) (px++pz),rE w.heap.size u] v)
 intro h211
 apply iE (.tail 9 (.tail 12 (.last 13 .done))) (fun c0 c1 v=>Rn w [rZ c1,rZ c0,rR (w.heap.size+1+1+1+1) (aA 10),rR (w.heap.size+1+1+1) (aA 10),rR (w.heap.size+1+1) (qx++qz),rR (w.heap.size+1) (px++pz),rE w.heap.size u] v)
 intro h111
 apply aW (.tail 10 (.tail 12 (.last 13 .done))) (fun c1 v=>Rn w [rZ c1,rR (w.heap.size+1+1+1+1) (aA 10),rR (w.heap.size+1+1+1) (aA 10),rR (w.heap.size+1+1) (qx++qz),rR (w.heap.size+1) (px++pz),rE w.heap.size u] v)
 intro h201
 apply aW (.tail 11 (.tail 12 (.last 13 .done))) (fun c0 v=>Rn w [rZ c0,rR (w.heap.size+1+1+1+1) (aA 10),rR (w.heap.size+1+1+1) (aA 10),rR (w.heap.size+1+1) (qx++qz),rR (w.heap.size+1) (px++pz),rE w.heap.size u] v)
 intro h210
 apply iE (.tail 4 (.tail 9 (.tail 12 (.last 13 .done)))) (fun c0 c1 v=>Rn w [rZ c1,rZ c0,rR (w.heap.size+1+1+1+1) (aA 10),rR (w.heap.size+1+1+1) (aA 10),rR (w.heap.size+1+1) (qx++qz),rR (w.heap.size+1) (px++pz),rE w.heap.size u] v)
 intro h011
 apply aW (.fork 9 (.tail 10 (.tail 12 (.last 13 .done))) 10 (.tail 9 (.tail 12 (.last 13 .done)))) (fun c1 v=>Rn w [rZ c1,rR (w.heap.size+1+1+1+1) (aA 10),rR (w.heap.size+1+1+1) (aA 10),rR (w.heap.size+1+1) (qx++qz),rR (w.heap.size+1) (px++pz),rE w.heap.size u] v)
 intro h101
 apply aW (.fork 9 (.tail 11 (.tail 12 (.last 13 .done))) 11 (.tail 9 (.tail 12 (.last 13 .done)))) (fun c0 v=>Rn w [rZ c0,rR (w.heap.size+1+1+1+1) (aA 10),rR (w.heap.size+1+1+1) (aA 10),rR (w.heap.size+1+1) (qx++qz),rR (w.heap.size+1) (px++pz),rE w.heap.size u] v)
 intro h110
 apply lY (.fork 10 (.tail 11 (.tail 12 (.last 13 .done))) 11 (.tail 10 (.tail 12 (.last 13 .done)))) (fun v=>Rn w [rR (w.heap.size+1+1+1+1) (aA 10),rR (w.heap.size+1+1+1) (aA 10),rR (w.heap.size+1+1) (qx++qz),rR (w.heap.size+1) (px++pz),rE w.heap.size u] v)
 intro h200
 apply aW (.fork 4 (.fork 9 (.tail 10 (.tail 12 (.last 13 .done))) 10 (.tail 9 (.tail 12 (.last 13 .done)))) 10 (.tail 4 (.tail 9 (.tail 12 (.last 13 .done))))) (fun c1 v=>Rn w [rZ c1,rR (w.heap.size+1+1+1+1) (aA 10),rR (w.heap.size+1+1+1) (aA 10),rR (w.heap.size+1+1) (qx++qz),rR (w.heap.size+1) (px++pz),rE w.heap.size u] v)
 intro h001
 apply aW (.fork 4 (.fork 9 (.tail 11 (.tail 12 (.last 13 .done))) 11 (.tail 9 (.tail 12 (.last 13 .done)))) 11 (.tail 4 (.tail 9 (.tail 12 (.last 13 .done))))) (fun c0 v=>Rn w [rZ c0,rR (w.heap.size+1+1+1+1) (aA 10),rR (w.heap.size+1+1+1) (aA 10),rR (w.heap.size+1+1) (qx++qz),rR (w.heap.size+1) (px++pz),rE w.heap.size u] v)
 intro h010
 apply lY (.fork3 9 (.fork 10 (.tail 11 (.tail 12 (.last 13 .done))) 11 (.tail 10 (.tail 12 (.last 13 .done)))) 10 (.fork 9 (.tail 11 (.tail 12 (.last 13 .done))) 11 (.tail 9 (.tail 12 (.last 13 .done)))) 11 (.fork 9 (.tail 10 (.tail 12 (.last 13 .done))) 10 (.tail 9 (.tail 12 (.last 13 .done))))) (fun v=>Rn w [rR (w.heap.size+1+1+1+1) (aA 10),rR (w.heap.size+1+1+1) (aA 10),rR (w.heap.size+1+1) (qx++qz),rR (w.heap.size+1) (px++pz),rE w.heap.size u] v)
 intro h100
 have H:Hid _:=FD.out
 ·skip
  refine wTf3 ?_ ?_ ?_
  ·skip
   simp only[oS]
   go_wp2_with fail
   refine(Ca.out _).mono ?_
   rintro e Z ⟨rfl,hb⟩
   have H2:Hid _:=H.out.later hb (nQ _)
   clear hb H
   go_wp2_with fail
   refine⟨⟨⟨_,H2.out⟩,rfl⟩,?_⟩
   exact h100.out  _ H2.out
  ·skip
   simp only[oS]
   go_wp2_with fail
   have H2:=H.out.alloc (Iv .u64 [0,0,0,0,0]) 211
   refine⟨⟨⟨_,H2.tail⟩,rfl⟩,?_⟩
   obtain⟨c0,ec⟩:∃c,c=V.heap.size:=⟨_,rfl⟩
   rw[←ec]at H2⊢
   have H3:=H2
   exact h010.out c0 _ H3
  ·skip
   simp only[oS]
   go_wp2_with fail
   have H2:=H.out.alloc (Iv .u64 [0,0,0,0,0]) 211
   refine⟨⟨⟨_,H2.tail⟩,rfl⟩,?_⟩
   obtain⟨c1,ec⟩:∃c,c=V.heap.size:=⟨_,rfl⟩
   rw[←ec]at H2⊢
   have H3:=H2
   exact h001.out c1 _ H3
 ·skip
  intro  v H0
  have H:Hid _:=H0
  clear H0
  refine wTf3 ?_ ?_ ?_
  ·skip
   simp only[oS]
   go_wp2_with fail
   refine(Cb.out _).mono ?_
   rintro e Z ⟨rfl,hb⟩
   have H2:Hid _:=H.out.later hb (nQ _)
   clear hb H
   go_wp2_with fail
   refine⟨⟨⟨_,H2.out⟩,rfl⟩,?_⟩
   exact h200.out  _ H2.out
  ·skip
   simp only[oS]
   go_wp2_with fail
   have H2:=H.out.alloc (Iv .u64 [0,0,0,0,0]) 211
   refine⟨⟨⟨_,H2.tail⟩,rfl⟩,?_⟩
   obtain⟨c0,ec⟩:∃c,c=v.heap.size:=⟨_,rfl⟩
   rw[←ec]at H2⊢
   have H3:=H2
   exact h110.out c0 _ H3
  ·skip
   simp only[oS]
   go_wp2_with fail
   have H2:=H.out.alloc (Iv .u64 [0,0,0,0,0]) 211
   refine⟨⟨⟨_,H2.tail⟩,rfl⟩,?_⟩
   obtain⟨c1,ec⟩:∃c,c=v.heap.size:=⟨_,rfl⟩
   rw[←ec]at H2⊢
   have H3:=H2
   exact h101.out c1 _ H3
 ·skip
  intro c0 v H0
  have H:Hid _:=H0
  clear H0
  refine wTf ?_ ?_
  ·skip
   simp only[oS]
   go_wp2_with fail
   refine(Ca.out _).mono ?_
   rintro e Z ⟨rfl,hb⟩
   have H2:Hid _:=H.out.later hb (nQ _)
   clear hb H
   go_wp2_with fail
   refine⟨⟨⟨_,H2.out.tail⟩,rfl⟩,?_⟩
   exact h110.out c0 _ H2.out
  ·skip
   simp only[oS]
   go_wp2_with fail
   have H2:=H.out.alloc (Iv .u64 [0,0,0,0,0]) 211
   refine⟨⟨⟨_,H2.tail.tail⟩,rfl⟩,?_⟩
   obtain⟨c1,ec⟩:∃c,c=v.heap.size:=⟨_,rfl⟩
   rw[←ec]at H2⊢
   have H3:=H2
   exact h011.out c0 c1 _ H3
 ·skip
  intro c1 v H0
  have H:Hid _:=H0
  clear H0
  refine wTf ?_ ?_
  ·skip
   simp only[oS]
   go_wp2_with fail
   refine(Ca.out _).mono ?_
   rintro e Z ⟨rfl,hb⟩
   have H2:Hid _:=H.out.later hb (nQ _)
   clear hb H
   go_wp2_with fail
   refine⟨⟨⟨_,H2.out.tail⟩,rfl⟩,?_⟩
   exact h101.out c1 _ H2.out
  ·skip
   simp only[oS]
   go_wp2_with fail
   have H2:=H.out.alloc (Iv .u64 [0,0,0,0,0]) 211
   refine⟨⟨⟨_,H2.tail.tail⟩,rfl⟩,?_⟩
   obtain⟨c0,ec⟩:∃c,c=v.heap.size:=⟨_,rfl⟩
   rw[←ec]at H2⊢
   have H3:=H2.two
   exact h011.out c0 c1 _ H3
 ·skip
  intro  v H0
  have H:Hid _:=H0
  clear H0
  refine wTf ?_ ?_
  ·skip
   simp only[oS]
   go_wp2_with fail
   have H2:=H.out.alloc (Iv .u64 [0,0,0,0,0]) 211
   refine⟨⟨⟨_,H2.tail⟩,rfl⟩,?_⟩
   obtain⟨c0,ec⟩:∃c,c=v.heap.size:=⟨_,rfl⟩
   rw[←ec]at H2⊢
   have H3:=H2
   exact h210.out c0 _ H3
  ·skip
   simp only[oS]
   go_wp2_with fail
   have H2:=H.out.alloc (Iv .u64 [0,0,0,0,0]) 211
   refine⟨⟨⟨_,H2.tail⟩,rfl⟩,?_⟩
   obtain⟨c1,ec⟩:∃c,c=v.heap.size:=⟨_,rfl⟩
   rw[←ec]at H2⊢
   have H3:=H2
   exact h201.out c1 _ H3
 ·skip
  intro c0 v H0
  have H:Hid _:=H0
  clear H0
  refine wTf ?_ ?_
  ·skip
   simp only[oS]
   go_wp2_with fail
   refine(Cb.out _).mono ?_
   rintro e Z ⟨rfl,hb⟩
   have H2:Hid _:=H.out.later hb (nQ _)
   clear hb H
   go_wp2_with fail
   refine⟨⟨⟨_,H2.out.tail⟩,rfl⟩,?_⟩
   exact h210.out c0 _ H2.out
  ·skip
   simp only[oS]
   go_wp2_with fail
   have H2:=H.out.alloc (Iv .u64 [0,0,0,0,0]) 211
   refine⟨⟨⟨_,H2.tail.tail⟩,rfl⟩,?_⟩
   obtain⟨c1,ec⟩:∃c,c=v.heap.size:=⟨_,rfl⟩
   rw[←ec]at H2⊢
   have H3:=H2
   exact h111.out c0 c1 _ H3
 ·skip
  intro c1 v H0
  have H:Hid _:=H0
  clear H0
  refine wTf ?_ ?_
  ·skip
   simp only[oS]
   go_wp2_with fail
   refine(Cb.out _).mono ?_
   rintro e Z ⟨rfl,hb⟩
   have H2:Hid _:=H.out.later hb (nQ _)
   clear hb H
   go_wp2_with fail
   refine⟨⟨⟨_,H2.out.tail⟩,rfl⟩,?_⟩
   exact h201.out c1 _ H2.out
  ·skip
   simp only[oS]
   go_wp2_with fail
   have H2:=H.out.alloc (Iv .u64 [0,0,0,0,0]) 211
   refine⟨⟨⟨_,H2.tail.tail⟩,rfl⟩,?_⟩
   obtain⟨c0,ec⟩:∃c,c=v.heap.size:=⟨_,rfl⟩
   rw[←ec]at H2⊢
   have H3:=H2.two
   exact h111.out c0 c1 _ H3
 ·skip
  intro c0 c1 v H0
  have H:Hid _:=H0
  clear H0
  refine wTt ?_
  simp only[oS]
  go_wp2_with fail
  refine(Ca.out _).mono ?_
  rintro e Z ⟨rfl,hb⟩
  have H2:Hid _:=H.out.later hb (nQ _)
  clear hb H
  go_wp2_with fail
  refine⟨⟨⟨_,H2.out.tail.tail⟩,rfl⟩,?_⟩
  exact h111.out c0 c1 _ H2.out
 ·skip
  intro c0 v H0
  have H:Hid _:=H0
  clear H0
  refine wTt ?_
  simp only[oS]
  go_wp2_with fail
  have H2:=H.out.alloc (Iv .u64 [0,0,0,0,0]) 211
  refine⟨⟨⟨_,H2.tail.tail⟩,rfl⟩,?_⟩
  obtain⟨c1,ec⟩:∃c,c=v.heap.size:=⟨_,rfl⟩
  rw[←ec]at H2⊢
  have H3:=H2
  exact h211.out c0 c1 _ H3
 ·skip
  intro c1 v H0
  have H:Hid _:=H0
  clear H0
  refine wTt ?_
  simp only[oS]
  go_wp2_with fail
  have H2:=H.out.alloc (Iv .u64 [0,0,0,0,0]) 211
  refine⟨⟨⟨_,H2.tail.tail⟩,rfl⟩,?_⟩
  obtain⟨c0,ec⟩:∃c,c=v.heap.size:=⟨_,rfl⟩
  rw[←ec]at H2⊢
  have H3:=H2.two
  exact h211.out c0 c1 _ H3
 ·skip
  intro c0 c1 v H0
  have H:Hid _:=H0
  clear H0
  refine wTt ?_
  simp only[oS]
  go_wp2_with fail
  refine(Cb.out _).mono ?_
  rintro e Z ⟨rfl,hb⟩
  have H2:Hid _:=H.out.later hb (nQ _)
  clear hb H
  go_wp2_with fail
  refine⟨⟨⟨_,H2.out.tail.tail⟩,rfl⟩,?_⟩
  exact h211.out c0 c1 _ H2.out
 intro ba bb_ v0 H0
 have H:Hid _:=H0
 clear H0
 try clear FD
 have F:Hid _:=H.out
 clear H
 refine wTt ?_
 simp only[oS]
 have KA:Hid _:=F.out.at (mC _ mQ)
 go_wp2_with(refine wpPr rfl 211 _ _ rfl ba (Iv .u64 a) rfl rfl _ _ KA.out (aZ la.out) (pU la.out) (aH _ _) (fun v2 hP=>sH ?_))
 refine aG ?_
 have F1:Hid _:=F.out.put1 hP
 clear hP KA F
 have F:Hid _:=F1.out
 clear F1
 go_wp2_with fail
 refine⟨⟨⟨_,F.out.tail.tail⟩,rfl⟩,?_⟩
 refine wTl ?_
 simp only[oS]
 have KA:Hid _:=F.out.at mQ
 go_wp2_with(refine wpPr rfl 211 _ _ rfl bb_ (Iv .u64 b) rfl rfl _ _ KA.out (aZ lb.out) (pU lb.out) (aH _ _) (fun v3 hP=>sH ?_))
 refine aG ?_
 have F1:Hid _:=F.out.put0 hP
 clear hP KA F
 have F:Hid _:=F1.out
 clear F1
 refine bN ?_
 go_wp2_with fail
 have FD:Hid _:=F.out.drew
 clear F
 refine wRt 13 (fun w'=>∃x:Wp (fun v=>Rn w [rE bb_ b,rE ba a,rR (w.heap.size+1+1+1+1) (aA 10),rR (w.heap.size+1+1+1) (aA 10),rR (w.heap.size+1+1) (qx++qz),rR (w.heap.size+1) (px++pz),rE w.heap.size u] v),w'=x.w) (.held [0,1,2,3,5,6,7,8] (.fork3 4 (.fork3 9 (.fork 10 (.tail 11 (.tail 12 (.last 13 .done))) 11 (.tail 10 (.tail 12 (.last 13 .done)))) 10 (.fork 9 (.tail 11 (.tail 12 (.last 13 .done))) 11 (.tail 9 (.tail 12 (.last 13 .done)))) 11 (.fork 9 (.tail 10 (.tail 12 (.last 13 .done))) 10 (.tail 9 (.tail 12 (.last 13 .done))))) 10 (.fork 4 (.fork 9 (.tail 11 (.tail 12 (.last 13 .done))) 11 (.tail 9 (.tail 12 (.last 13 .done)))) 11 (.tail 4 (.tail 9 (.tail 12 (.last 13 .done))))) 11 (.fork 4 (.fork 9 (.tail 10 (.tail 12 (.last 13 .done))) 10 (.tail 9 (.tail 12 (.last 13 .done)))) 10 (.tail 4 (.tail 9 (.tail 12 (.last 13 .done))))))) kJ (by kernel_rfl) ⟨⟨_,FD.out⟩,rfl⟩ ?_
 obtain⟨V,eV⟩:∃V,V=v3.drew:=⟨_,rfl⟩
 rw[←eV]at FD⊢
 clear eV
 refine wTh ?_
 simp only[oS]
 refine aD rfl (.pointer (some ⟨(w.heap.size+1+1),0,none⟩)) (fun w'=>by kernel_rfl) ?_
 simp only[pS]
 refine wqLm rfl 211 _ rfl (w.heap.size+1+1) 0 rfl (qx.map (Value.int .u64)) _ (fun w' hw'=>by obtain⟨x,rfl⟩:=hw';exact gS (x.p.at (mC _ (mC _ (mC _ (mC _ mQ)))))) underlying211 rfl (jI lqx.out) ?_
 simp only[pS]
 refine aD rfl (.pointer (some ⟨(w.heap.size+1+1),5,none⟩)) (fun w'=>by kernel_rfl) ?_
 simp only[pS]
 refine wqLm rfl 211 _ rfl (w.heap.size+1+1) 5 rfl (qz.map (Value.int .u64)) _ (fun w' hw'=>by obtain⟨x,rfl⟩:=hw';exact gT 5 lqx.out (x.p.at (mC _ (mC _ (mC _ (mC _ mQ)))))) underlying211 rfl (jI lqz.out) ?_
 simp only[pS]
 refine aD rfl (.pointer (some ⟨(w.heap.size+1+1),0,none⟩)) (fun w'=>by kernel_rfl) ?_
 simp only[pS]
 refine wqLm rfl 211 _ rfl (w.heap.size+1+1) 0 rfl (qx.map (Value.int .u64)) _ (fun w' hw'=>by obtain⟨x,rfl⟩:=hw';exact gS (x.p.at (mC _ (mC _ (mC _ (mC _ mQ)))))) underlying211 rfl (jI lqx.out) ?_
 simp only[pS]
 refine aD rfl (.pointer (some ⟨(w.heap.size+1+1),5,none⟩)) (fun w'=>by kernel_rfl) ?_
 simp only[pS]
 refine wqLm rfl 211 _ rfl (w.heap.size+1+1) 5 rfl (qz.map (Value.int .u64)) _ (fun w' hw'=>by obtain⟨x,rfl⟩:=hw';exact gT 5 lqx.out (x.p.at (mC _ (mC _ (mC _ (mC _ mQ)))))) underlying211 rfl (jI lqz.out) ?_
 simp only[pS]
 refine wqN ?_
 apply iE (.tail 12 (.last 13 .done)) (fun c0 c1 v=>Rn w [rZ c1,rZ c0,rE bb_ b,rE ba a,rR (w.heap.size+1+1+1+1) (aA 10),rR (w.heap.size+1+1+1) (aA 10),rR (w.heap.size+1+1) (qx++qz),rR (w.heap.size+1) (px++pz),rE w.heap.size u] v)
 intro h211
 apply iE (.tail 9 (.tail 12 (.last 13 .done))) (fun c0 c1 v=>Rn w [rZ c1,rZ c0,rE bb_ b,rE ba a,rR (w.heap.size+1+1+1+1) (aA 10),rR (w.heap.size+1+1+1) (aA 10),rR (w.heap.size+1+1) (qx++qz),rR (w.heap.size+1) (px++pz),rE w.heap.size u] v)
 intro h111
 apply aW (.tail 10 (.tail 12 (.last 13 .done))) (fun c1 v=>Rn w [rZ c1,rE bb_ b,rE ba a,rR (w.heap.size+1+1+1+1) (aA 10),rR (w.heap.size+1+1+1) (aA 10),rR (w.heap.size+1+1) (qx++qz),rR (w.heap.size+1) (px++pz),rE w.heap.size u] v)
 intro h201
 apply aW (.tail 11 (.tail 12 (.last 13 .done))) (fun c0 v=>Rn w [rZ c0,rE bb_ b,rE ba a,rR (w.heap.size+1+1+1+1) (aA 10),rR (w.heap.size+1+1+1) (aA 10),rR (w.heap.size+1+1) (qx++qz),rR (w.heap.size+1) (px++pz),rE w.heap.size u] v)
 intro h210
 apply iE (.tail 4 (.tail 9 (.tail 12 (.last 13 .done)))) (fun c0 c1 v=>Rn w [rZ c1,rZ c0,rE bb_ b,rE ba a,rR (w.heap.size+1+1+1+1) (aA 10),rR (w.heap.size+1+1+1) (aA 10),rR (w.heap.size+1+1) (qx++qz),rR (w.heap.size+1) (px++pz),rE w.heap.size u] v)
 intro h011
 apply aW (.fork 9 (.tail 10 (.tail 12 (.last 13 .done))) 10 (.tail 9 (.tail 12 (.last 13 .done)))) (fun c1 v=>Rn w [rZ c1,rE bb_ b,rE ba a,rR (w.heap.size+1+1+1+1) (aA 10),rR (w.heap.size+1+1+1) (aA 10),rR (w.heap.size+1+1) (qx++qz),rR (w.heap.size+1) (px++pz),rE w.heap.size u] v)
 intro h101
 apply aW (.fork 9 (.tail 11 (.tail 12 (.last 13 .done))) 11 (.tail 9 (.tail 12 (.last 13 .done)))) (fun c0 v=>Rn w [rZ c0,rE bb_ b,rE ba a,rR (w.heap.size+1+1+1+1) (aA 10),rR (w.heap.size+1+1+1) (aA 10),rR (w.heap.size+1+1) (qx++qz),rR (w.heap.size+1) (px++pz),rE w.heap.size u] v)
 intro h110
 apply lY (.fork 10 (.tail 11 (.tail 12 (.last 13 .done))) 11 (.tail 10 (.tail 12 (.last 13 .done)))) (fun v=>Rn w [rE bb_ b,rE ba a,rR (w.heap.size+1+1+1+1) (aA 10),rR (w.heap.size+1+1+1) (aA 10),rR (w.heap.size+1+1) (qx++qz),rR (w.heap.size+1) (px++pz),rE w.heap.size u] v)
 intro h200
 apply aW (.fork 4 (.fork 9 (.tail 10 (.tail 12 (.last 13 .done))) 10 (.tail 9 (.tail 12 (.last 13 .done)))) 10 (.tail 4 (.tail 9 (.tail 12 (.last 13 .done))))) (fun c1 v=>Rn w [rZ c1,rE bb_ b,rE ba a,rR (w.heap.size+1+1+1+1) (aA 10),rR (w.heap.size+1+1+1) (aA 10),rR (w.heap.size+1+1) (qx++qz),rR (w.heap.size+1) (px++pz),rE w.heap.size u] v)
 intro h001
 apply aW (.fork 4 (.fork 9 (.tail 11 (.tail 12 (.last 13 .done))) 11 (.tail 9 (.tail 12 (.last 13 .done)))) 11 (.tail 4 (.tail 9 (.tail 12 (.last 13 .done))))) (fun c0 v=>Rn w [rZ c0,rE bb_ b,rE ba a,rR (w.heap.size+1+1+1+1) (aA 10),rR (w.heap.size+1+1+1) (aA 10),rR (w.heap.size+1+1) (qx++qz),rR (w.heap.size+1) (px++pz),rE w.heap.size u] v)
 intro h010
 apply lY (.fork3 9 (.fork 10 (.tail 11 (.tail 12 (.last 13 .done))) 11 (.tail 10 (.tail 12 (.last 13 .done)))) 10 (.fork 9 (.tail 11 (.tail 12 (.last 13 .done))) 11 (.tail 9 (.tail 12 (.last 13 .done)))) 11 (.fork 9 (.tail 10 (.tail 12 (.last 13 .done))) 10 (.tail 9 (.tail 12 (.last 13 .done))))) (fun v=>Rn w [rE bb_ b,rE ba a,rR (w.heap.size+1+1+1+1) (aA 10),rR (w.heap.size+1+1+1) (aA 10),rR (w.heap.size+1+1) (qx++qz),rR (w.heap.size+1) (px++pz),rE w.heap.size u] v)
 intro h100
 have H:Hid _:=FD.out
 ·skip
  refine wTf3 ?_ ?_ ?_
  ·skip
   simp only[oS]
   go_wp2_with fail
   refine(Cc.out _).mono ?_
   rintro e Z ⟨rfl,hb⟩
   have H2:Hid _:=H.out.later hb (nQ _)
   clear hb H
   go_wp2_with fail
   refine⟨⟨⟨_,H2.out⟩,rfl⟩,?_⟩
   exact h100.out  _ H2.out
  ·skip
   simp only[oS]
   go_wp2_with fail
   have H2:=H.out.alloc (Iv .u64 [0,0,0,0,0]) 211
   refine⟨⟨⟨_,H2.tail⟩,rfl⟩,?_⟩
   obtain⟨c0,ec⟩:∃c,c=V.heap.size:=⟨_,rfl⟩
   rw[←ec]at H2⊢
   have H3:=H2
   exact h010.out c0 _ H3
  ·skip
   simp only[oS]
   go_wp2_with fail
   have H2:=H.out.alloc (Iv .u64 [0,0,0,0,0]) 211
   refine⟨⟨⟨_,H2.tail⟩,rfl⟩,?_⟩
   obtain⟨c1,ec⟩:∃c,c=V.heap.size:=⟨_,rfl⟩
   rw[←ec]at H2⊢
   have H3:=H2
   exact h001.out c1 _ H3
 ·skip
  intro  v H0
  have H:Hid _:=H0
  clear H0
  refine wTf3 ?_ ?_ ?_
  ·skip
   simp only[oS]
   go_wp2_with fail
   refine(Cd.out _).mono ?_
   rintro e Z ⟨rfl,hb⟩
   have H2:Hid _:=H.out.later hb (nQ _)
   clear hb H
   go_wp2_with fail
   refine⟨⟨⟨_,H2.out⟩,rfl⟩,?_⟩
   exact h200.out  _ H2.out
  ·skip
   simp only[oS]
   go_wp2_with fail
   have H2:=H.out.alloc (Iv .u64 [0,0,0,0,0]) 211
   refine⟨⟨⟨_,H2.tail⟩,rfl⟩,?_⟩
   obtain⟨c0,ec⟩:∃c,c=v.heap.size:=⟨_,rfl⟩
   rw[←ec]at H2⊢
   have H3:=H2
   exact h110.out c0 _ H3
  ·skip
   simp only[oS]
   go_wp2_with fail
   have H2:=H.out.alloc (Iv .u64 [0,0,0,0,0]) 211
   refine⟨⟨⟨_,H2.tail⟩,rfl⟩,?_⟩
   obtain⟨c1,ec⟩:∃c,c=v.heap.size:=⟨_,rfl⟩
   rw[←ec]at H2⊢
   have H3:=H2
   exact h101.out c1 _ H3
 ·skip
  intro c0 v H0
  have H:Hid _:=H0
  clear H0
  refine wTf ?_ ?_
  ·skip
   simp only[oS]
   go_wp2_with fail
   refine(Cc.out _).mono ?_
   rintro e Z ⟨rfl,hb⟩
   have H2:Hid _:=H.out.later hb (nQ _)
   clear hb H
   go_wp2_with fail
   refine⟨⟨⟨_,H2.out.tail⟩,rfl⟩,?_⟩
   exact h110.out c0 _ H2.out
  ·skip
   simp only[oS]
   go_wp2_with fail
   have H2:=H.out.alloc (Iv .u64 [0,0,0,0,0]) 211
   refine⟨⟨⟨_,H2.tail.tail⟩,rfl⟩,?_⟩
   obtain⟨c1,ec⟩:∃c,c=v.heap.size:=⟨_,rfl⟩
   rw[←ec]at H2⊢
   have H3:=H2
   exact h011.out c0 c1 _ H3
 ·skip
  intro c1 v H0
  have H:Hid _:=H0
  clear H0
  refine wTf ?_ ?_
  ·skip
   simp only[oS]
   go_wp2_with fail
   refine(Cc.out _).mono ?_
   rintro e Z ⟨rfl,hb⟩
   have H2:Hid _:=H.out.later hb (nQ _)
   clear hb H
   go_wp2_with fail
   refine⟨⟨⟨_,H2.out.tail⟩,rfl⟩,?_⟩
   exact h101.out c1 _ H2.out
  ·skip
   simp only[oS]
   go_wp2_with fail
   have H2:=H.out.alloc (Iv .u64 [0,0,0,0,0]) 211
   refine⟨⟨⟨_,H2.tail.tail⟩,rfl⟩,?_⟩
   obtain⟨c0,ec⟩:∃c,c=v.heap.size:=⟨_,rfl⟩
   rw[←ec]at H2⊢
   have H3:=H2.two
   exact h011.out c0 c1 _ H3
 ·skip
  intro  v H0
  have H:Hid _:=H0
  clear H0
  refine wTf ?_ ?_
  ·skip
   simp only[oS]
   go_wp2_with fail
   have H2:=H.out.alloc (Iv .u64 [0,0,0,0,0]) 211
   refine⟨⟨⟨_,H2.tail⟩,rfl⟩,?_⟩
   obtain⟨c0,ec⟩:∃c,c=v.heap.size:=⟨_,rfl⟩
   rw[←ec]at H2⊢
   have H3:=H2
   exact h210.out c0 _ H3
  ·skip
   simp only[oS]
   go_wp2_with fail
   have H2:=H.out.alloc (Iv .u64 [0,0,0,0,0]) 211
   refine⟨⟨⟨_,H2.tail⟩,rfl⟩,?_⟩
   obtain⟨c1,ec⟩:∃c,c=v.heap.size:=⟨_,rfl⟩
   rw[←ec]at H2⊢
   have H3:=H2
   exact h201.out c1 _ H3
 ·skip
  intro c0 v H0
  have H:Hid _:=H0
  clear H0
  refine wTf ?_ ?_
  ·skip
   simp only[oS]
   go_wp2_with fail
   refine(Cd.out _).mono ?_
   rintro e Z ⟨rfl,hb⟩
   have H2:Hid _:=H.out.later hb (nQ _)
   clear hb H
   go_wp2_with fail
   refine⟨⟨⟨_,H2.out.tail⟩,rfl⟩,?_⟩
   exact h210.out c0 _ H2.out
  ·skip
   simp only[oS]
   go_wp2_with fail
   have H2:=H.out.alloc (Iv .u64 [0,0,0,0,0]) 211
   refine⟨⟨⟨_,H2.tail.tail⟩,rfl⟩,?_⟩
   obtain⟨c1,ec⟩:∃c,c=v.heap.size:=⟨_,rfl⟩
   rw[←ec]at H2⊢
   have H3:=H2
   exact h111.out c0 c1 _ H3
 ·skip
  intro c1 v H0
  have H:Hid _:=H0
  clear H0
  refine wTf ?_ ?_
  ·skip
   simp only[oS]
   go_wp2_with fail
   refine(Cd.out _).mono ?_
   rintro e Z ⟨rfl,hb⟩
   have H2:Hid _:=H.out.later hb (nQ _)
   clear hb H
   go_wp2_with fail
   refine⟨⟨⟨_,H2.out.tail⟩,rfl⟩,?_⟩
   exact h201.out c1 _ H2.out
  ·skip
   simp only[oS]
   go_wp2_with fail
   have H2:=H.out.alloc (Iv .u64 [0,0,0,0,0]) 211
   refine⟨⟨⟨_,H2.tail.tail⟩,rfl⟩,?_⟩
   obtain⟨c0,ec⟩:∃c,c=v.heap.size:=⟨_,rfl⟩
   rw[←ec]at H2⊢
   have H3:=H2.two
   exact h111.out c0 c1 _ H3
 ·skip
  intro c0 c1 v H0
  have H:Hid _:=H0
  clear H0
  refine wTt ?_
  simp only[oS]
  go_wp2_with fail
  refine(Cc.out _).mono ?_
  rintro e Z ⟨rfl,hb⟩
  have H2:Hid _:=H.out.later hb (nQ _)
  clear hb H
  go_wp2_with fail
  refine⟨⟨⟨_,H2.out.tail.tail⟩,rfl⟩,?_⟩
  exact h111.out c0 c1 _ H2.out
 ·skip
  intro c0 v H0
  have H:Hid _:=H0
  clear H0
  refine wTt ?_
  simp only[oS]
  go_wp2_with fail
  have H2:=H.out.alloc (Iv .u64 [0,0,0,0,0]) 211
  refine⟨⟨⟨_,H2.tail.tail⟩,rfl⟩,?_⟩
  obtain⟨c1,ec⟩:∃c,c=v.heap.size:=⟨_,rfl⟩
  rw[←ec]at H2⊢
  have H3:=H2
  exact h211.out c0 c1 _ H3
 ·skip
  intro c1 v H0
  have H:Hid _:=H0
  clear H0
  refine wTt ?_
  simp only[oS]
  go_wp2_with fail
  have H2:=H.out.alloc (Iv .u64 [0,0,0,0,0]) 211
  refine⟨⟨⟨_,H2.tail.tail⟩,rfl⟩,?_⟩
  obtain⟨c0,ec⟩:∃c,c=v.heap.size:=⟨_,rfl⟩
  rw[←ec]at H2⊢
  have H3:=H2.two
  exact h211.out c0 c1 _ H3
 ·skip
  intro c0 c1 v H0
  have H:Hid _:=H0
  clear H0
  refine wTt ?_
  simp only[oS]
  go_wp2_with fail
  refine(Cd.out _).mono ?_
  rintro e Z ⟨rfl,hb⟩
  have H2:Hid _:=H.out.later hb (nQ _)
  clear hb H
  go_wp2_with fail
  refine⟨⟨⟨_,H2.out.tail.tail⟩,rfl⟩,?_⟩
  exact h211.out c0 c1 _ H2.out
 intro bc bd v3 H0
 have H:Hid _:=H0
 clear H0
 try clear FD
 have F:Hid _:=H.out
 clear H
 refine wTt ?_
 simp only[oS]
 have KA:Hid _:=F.out.at (mC _ mQ)
 go_wp2_with(refine wpPr rfl 211 _ _ rfl bc (Iv .u64 c) rfl rfl _ _ KA.out (aZ lc.out) (pU lc.out) (aH _ _) (fun v5 hP=>sH ?_))
 refine aG ?_
 have F1:Hid _:=F.out.put1 hP
 clear hP KA F
 have F:Hid _:=F1.out
 clear F1
 go_wp2_with fail
 refine⟨⟨⟨_,F.out.tail.tail⟩,rfl⟩,?_⟩
 refine wTl ?_
 simp only[oS]
 have KA:Hid _:=F.out.at mQ
 go_wp2_with(refine wpPr rfl 211 _ _ rfl bd (Iv .u64 d) rfl rfl _ _ KA.out (aZ ld.out) (pU ld.out) (aH _ _) (fun v6 hP=>sH ?_))
 refine aG ?_
 have F1:Hid _:=F.out.put0 hP
 clear hP KA F
 have F:Hid _:=F1.out
 clear F1
 refine bN ?_
 go_wp2_with fail
 have FD:Hid _:=F.out.drew
 clear F
 refine wRt 9 (fun w'=>∃x:Wp (fun v=>Rn w [rE bd d,rE bc c,rE bb_ b,rE ba a,rR (w.heap.size+1+1+1+1) (aA 10),rR (w.heap.size+1+1+1) (aA 10),rR (w.heap.size+1+1) (qx++qz),rR (w.heap.size+1) (px++pz),rE w.heap.size u] v),w'=x.w) (.held [0,1,3,4] (.fork3 2 (.fork3 5 (.fork 6 (.tail 7 (.tail 8 (.last 9 .done))) 7 (.tail 6 (.tail 8 (.last 9 .done)))) 6 (.fork 5 (.tail 7 (.tail 8 (.last 9 .done))) 7 (.tail 5 (.tail 8 (.last 9 .done)))) 7 (.fork 5 (.tail 6 (.tail 8 (.last 9 .done))) 6 (.tail 5 (.tail 8 (.last 9 .done))))) 6 (.fork 2 (.fork 5 (.tail 7 (.tail 8 (.last 9 .done))) 7 (.tail 5 (.tail 8 (.last 9 .done)))) 7 (.tail 2 (.tail 5 (.tail 8 (.last 9 .done))))) 7 (.fork 2 (.fork 5 (.tail 6 (.tail 8 (.last 9 .done))) 6 (.tail 5 (.tail 8 (.last 9 .done)))) 6 (.tail 2 (.tail 5 (.tail 8 (.last 9 .done))))))) kJ (by kernel_rfl) ⟨⟨_,FD.out⟩,rfl⟩ ?_
 obtain⟨V,eV⟩:∃V,V=v6.drew:=⟨_,rfl⟩
 rw[←eV]at FD⊢
 clear eV
 refine wTh ?_
 simp only[oS]
 refine wqLr rfl 211 _ rfl ba rfl _ (Iv .u64 a) _ _ (fun w' hw'=>by obtain⟨x,rfl⟩:=hw';exact x.p.at (mC _ (mC _ (mC _ mQ)))) underlying211 rfl (aZ la.out) ?_
 simp only[pS]
 refine wqLr rfl 211 _ rfl ba rfl _ (Iv .u64 a) _ _ (fun w' hw'=>by obtain⟨x,rfl⟩:=hw';exact x.p.at (mC _ (mC _ (mC _ mQ)))) underlying211 rfl (aZ la.out) ?_
 simp only[pS]
 refine wqLr rfl 211 _ rfl bb_ rfl _ (Iv .u64 b) _ _ (fun w' hw'=>by obtain⟨x,rfl⟩:=hw';exact x.p.at (mC _ (mC _ mQ))) underlying211 rfl (aZ lb.out) ?_
 simp only[pS]
 refine wqLr rfl 211 _ rfl bb_ rfl _ (Iv .u64 b) _ _ (fun w' hw'=>by obtain⟨x,rfl⟩:=hw';exact x.p.at (mC _ (mC _ mQ))) underlying211 rfl (aZ lb.out) ?_
 simp only[pS]
 refine wqN ?_
 apply iE (.tail 8 (.last 9 .done)) (fun c0 c1 v=>Rn w [rZ c1,rZ c0,rE bd d,rE bc c,rE bb_ b,rE ba a,rR (w.heap.size+1+1+1+1) (aA 10),rR (w.heap.size+1+1+1) (aA 10),rR (w.heap.size+1+1) (qx++qz),rR (w.heap.size+1) (px++pz),rE w.heap.size u] v)
 intro h211
 apply iE (.tail 5 (.tail 8 (.last 9 .done))) (fun c0 c1 v=>Rn w [rZ c1,rZ c0,rE bd d,rE bc c,rE bb_ b,rE ba a,rR (w.heap.size+1+1+1+1) (aA 10),rR (w.heap.size+1+1+1) (aA 10),rR (w.heap.size+1+1) (qx++qz),rR (w.heap.size+1) (px++pz),rE w.heap.size u] v)
 intro h111
 apply aW (.tail 6 (.tail 8 (.last 9 .done))) (fun c1 v=>Rn w [rZ c1,rE bd d,rE bc c,rE bb_ b,rE ba a,rR (w.heap.size+1+1+1+1) (aA 10),rR (w.heap.size+1+1+1) (aA 10),rR (w.heap.size+1+1) (qx++qz),rR (w.heap.size+1) (px++pz),rE w.heap.size u] v)
 intro h201
 apply aW (.tail 7 (.tail 8 (.last 9 .done))) (fun c0 v=>Rn w [rZ c0,rE bd d,rE bc c,rE bb_ b,rE ba a,rR (w.heap.size+1+1+1+1) (aA 10),rR (w.heap.size+1+1+1) (aA 10),rR (w.heap.size+1+1) (qx++qz),rR (w.heap.size+1) (px++pz),rE w.heap.size u] v)
 intro h210
 apply iE (.tail 2 (.tail 5 (.tail 8 (.last 9 .done)))) (fun c0 c1 v=>Rn w [rZ c1,rZ c0,rE bd d,rE bc c,rE bb_ b,rE ba a,rR (w.heap.size+1+1+1+1) (aA 10),rR (w.heap.size+1+1+1) (aA 10),rR (w.heap.size+1+1) (qx++qz),rR (w.heap.size+1) (px++pz),rE w.heap.size u] v)
 intro h011
 apply aW (.fork 5 (.tail 6 (.tail 8 (.last 9 .done))) 6 (.tail 5 (.tail 8 (.last 9 .done)))) (fun c1 v=>Rn w [rZ c1,rE bd d,rE bc c,rE bb_ b,rE ba a,rR (w.heap.size+1+1+1+1) (aA 10),rR (w.heap.size+1+1+1) (aA 10),rR (w.heap.size+1+1) (qx++qz),rR (w.heap.size+1) (px++pz),rE w.heap.size u] v)
 intro h101
 apply aW (.fork 5 (.tail 7 (.tail 8 (.last 9 .done))) 7 (.tail 5 (.tail 8 (.last 9 .done)))) (fun c0 v=>Rn w [rZ c0,rE bd d,rE bc c,rE bb_ b,rE ba a,rR (w.heap.size+1+1+1+1) (aA 10),rR (w.heap.size+1+1+1) (aA 10),rR (w.heap.size+1+1) (qx++qz),rR (w.heap.size+1) (px++pz),rE w.heap.size u] v)
 intro h110
 apply lY (.fork 6 (.tail 7 (.tail 8 (.last 9 .done))) 7 (.tail 6 (.tail 8 (.last 9 .done)))) (fun v=>Rn w [rE bd d,rE bc c,rE bb_ b,rE ba a,rR (w.heap.size+1+1+1+1) (aA 10),rR (w.heap.size+1+1+1) (aA 10),rR (w.heap.size+1+1) (qx++qz),rR (w.heap.size+1) (px++pz),rE w.heap.size u] v)
 intro h200
 apply aW (.fork 2 (.fork 5 (.tail 6 (.tail 8 (.last 9 .done))) 6 (.tail 5 (.tail 8 (.last 9 .done)))) 6 (.tail 2 (.tail 5 (.tail 8 (.last 9 .done))))) (fun c1 v=>Rn w [rZ c1,rE bd d,rE bc c,rE bb_ b,rE ba a,rR (w.heap.size+1+1+1+1) (aA 10),rR (w.heap.size+1+1+1) (aA 10),rR (w.heap.size+1+1) (qx++qz),rR (w.heap.size+1) (px++pz),rE w.heap.size u] v)
 intro h001
 apply aW (.fork 2 (.fork 5 (.tail 7 (.tail 8 (.last 9 .done))) 7 (.tail 5 (.tail 8 (.last 9 .done)))) 7 (.tail 2 (.tail 5 (.tail 8 (.last 9 .done))))) (fun c0 v=>Rn w [rZ c0,rE bd d,rE bc c,rE bb_ b,rE ba a,rR (w.heap.size+1+1+1+1) (aA 10),rR (w.heap.size+1+1+1) (aA 10),rR (w.heap.size+1+1) (qx++qz),rR (w.heap.size+1) (px++pz),rE w.heap.size u] v)
 intro h010
 apply lY (.fork3 5 (.fork 6 (.tail 7 (.tail 8 (.last 9 .done))) 7 (.tail 6 (.tail 8 (.last 9 .done)))) 6 (.fork 5 (.tail 7 (.tail 8 (.last 9 .done))) 7 (.tail 5 (.tail 8 (.last 9 .done)))) 7 (.fork 5 (.tail 6 (.tail 8 (.last 9 .done))) 6 (.tail 5 (.tail 8 (.last 9 .done))))) (fun v=>Rn w [rE bd d,rE bc c,rE bb_ b,rE ba a,rR (w.heap.size+1+1+1+1) (aA 10),rR (w.heap.size+1+1+1) (aA 10),rR (w.heap.size+1+1) (qx++qz),rR (w.heap.size+1) (px++pz),rE w.heap.size u] v)
 intro h100
 have H:Hid _:=FD.out
 ·skip
  refine wTf3 ?_ ?_ ?_
  ·skip
   simp only[oS]
   go_wp2_with fail
   refine(Caa.out _).mono ?_
   rintro e Z ⟨rfl,hb⟩
   have H2:Hid _:=H.out.later hb (nQ _)
   clear hb H
   go_wp2_with fail
   refine⟨⟨⟨_,H2.out⟩,rfl⟩,?_⟩
   exact h100.out  _ H2.out
  ·skip
   simp only[oS]
   go_wp2_with fail
   have H2:=H.out.alloc (Iv .u64 [0,0,0,0,0]) 211
   refine⟨⟨⟨_,H2.tail⟩,rfl⟩,?_⟩
   obtain⟨c0,ec⟩:∃c,c=V.heap.size:=⟨_,rfl⟩
   rw[←ec]at H2⊢
   have H3:=H2
   exact h010.out c0 _ H3
  ·skip
   simp only[oS]
   go_wp2_with fail
   have H2:=H.out.alloc (Iv .u64 [0,0,0,0,0]) 211
   refine⟨⟨⟨_,H2.tail⟩,rfl⟩,?_⟩
   obtain⟨c1,ec⟩:∃c,c=V.heap.size:=⟨_,rfl⟩
   rw[←ec]at H2⊢
   have H3:=H2
   exact h001.out c1 _ H3
 ·skip
  intro  v H0
  have H:Hid _:=H0
  clear H0
  refine wTf3 ?_ ?_ ?_
  ·skip
   simp only[oS]
   go_wp2_with fail
   refine(Cbb.out _).mono ?_
   rintro e Z ⟨rfl,hb⟩
   have H2:Hid _:=H.out.later hb (nQ _)
   clear hb H
   go_wp2_with fail
   refine⟨⟨⟨_,H2.out⟩,rfl⟩,?_⟩
   exact h200.out  _ H2.out
  ·skip
   simp only[oS]
   go_wp2_with fail
   have H2:=H.out.alloc (Iv .u64 [0,0,0,0,0]) 211
   refine⟨⟨⟨_,H2.tail⟩,rfl⟩,?_⟩
   obtain⟨c0,ec⟩:∃c,c=v.heap.size:=⟨_,rfl⟩
   rw[←ec]at H2⊢
   have H3:=H2
   exact h110.out c0 _ H3
  ·skip
   simp only[oS]
   go_wp2_with fail
   have H2:=H.out.alloc (Iv .u64 [0,0,0,0,0]) 211
   refine⟨⟨⟨_,H2.tail⟩,rfl⟩,?_⟩
   obtain⟨c1,ec⟩:∃c,c=v.heap.size:=⟨_,rfl⟩
   rw[←ec]at H2⊢
   have H3:=H2
   exact h101.out c1 _ H3
 ·skip
  intro c0 v H0
  have H:Hid _:=H0
  clear H0
  refine wTf ?_ ?_
  ·skip
   simp only[oS]
   go_wp2_with fail
   refine(Caa.out _).mono ?_
   rintro e Z ⟨rfl,hb⟩
   have H2:Hid _:=H.out.later hb (nQ _)
   clear hb H
   go_wp2_with fail
   refine⟨⟨⟨_,H2.out.tail⟩,rfl⟩,?_⟩
   exact h110.out c0 _ H2.out
  ·skip
   simp only[oS]
   go_wp2_with fail
   have H2:=H.out.alloc (Iv .u64 [0,0,0,0,0]) 211
   refine⟨⟨⟨_,H2.tail.tail⟩,rfl⟩,?_⟩
   obtain⟨c1,ec⟩:∃c,c=v.heap.size:=⟨_,rfl⟩
   rw[←ec]at H2⊢
   have H3:=H2
   exact h011.out c0 c1 _ H3
 ·skip
  intro c1 v H0
  have H:Hid _:=H0
  clear H0
  refine wTf ?_ ?_
  ·skip
   simp only[oS]
   go_wp2_with fail
   refine(Caa.out _).mono ?_
   rintro e Z ⟨rfl,hb⟩
   have H2:Hid _:=H.out.later hb (nQ _)
   clear hb H
   go_wp2_with fail
   refine⟨⟨⟨_,H2.out.tail⟩,rfl⟩,?_⟩
   exact h101.out c1 _ H2.out
  ·skip
   simp only[oS]
   go_wp2_with fail
   have H2:=H.out.alloc (Iv .u64 [0,0,0,0,0]) 211
   refine⟨⟨⟨_,H2.tail.tail⟩,rfl⟩,?_⟩
   obtain⟨c0,ec⟩:∃c,c=v.heap.size:=⟨_,rfl⟩
   rw[←ec]at H2⊢
   have H3:=H2.two
   exact h011.out c0 c1 _ H3
 ·skip
  intro  v H0
  have H:Hid _:=H0
  clear H0
  refine wTf ?_ ?_
  ·skip
   simp only[oS]
   go_wp2_with fail
   have H2:=H.out.alloc (Iv .u64 [0,0,0,0,0]) 211
   refine⟨⟨⟨_,H2.tail⟩,rfl⟩,?_⟩
   obtain⟨c0,ec⟩:∃c,c=v.heap.size:=⟨_,rfl⟩
   rw[←ec]at H2⊢
   have H3:=H2
   exact h210.out c0 _ H3
  ·skip
   simp only[oS]
   go_wp2_with fail
   have H2:=H.out.alloc (Iv .u64 [0,0,0,0,0]) 211
   refine⟨⟨⟨_,H2.tail⟩,rfl⟩,?_⟩
   obtain⟨c1,ec⟩:∃c,c=v.heap.size:=⟨_,rfl⟩
   rw[←ec]at H2⊢
   have H3:=H2
   exact h201.out c1 _ H3
 ·skip
  intro c0 v H0
  have H:Hid _:=H0
  clear H0
  refine wTf ?_ ?_
  ·skip
   simp only[oS]
   go_wp2_with fail
   refine(Cbb.out _).mono ?_
   rintro e Z ⟨rfl,hb⟩
   have H2:Hid _:=H.out.later hb (nQ _)
   clear hb H
   go_wp2_with fail
   refine⟨⟨⟨_,H2.out.tail⟩,rfl⟩,?_⟩
   exact h210.out c0 _ H2.out
  ·skip
   simp only[oS]
   go_wp2_with fail
   have H2:=H.out.alloc (Iv .u64 [0,0,0,0,0]) 211
   refine⟨⟨⟨_,H2.tail.tail⟩,rfl⟩,?_⟩
   obtain⟨c1,ec⟩:∃c,c=v.heap.size:=⟨_,rfl⟩
   rw[←ec]at H2⊢
   have H3:=H2
   exact h111.out c0 c1 _ H3
 ·skip
  intro c1 v H0
  have H:Hid _:=H0
  clear H0
  refine wTf ?_ ?_
  ·skip
   simp only[oS]
   go_wp2_with fail
   refine(Cbb.out _).mono ?_
   rintro e Z ⟨rfl,hb⟩
   have H2:Hid _:=H.out.later hb (nQ _)
   clear hb H
   go_wp2_with fail
   refine⟨⟨⟨_,H2.out.tail⟩,rfl⟩,?_⟩
   exact h201.out c1 _ H2.out
  ·skip
   simp only[oS]
   go_wp2_with fail
   have H2:=H.out.alloc (Iv .u64 [0,0,0,0,0]) 211
   refine⟨⟨⟨_,H2.tail.tail⟩,rfl⟩,?_⟩
   obtain⟨c0,ec⟩:∃c,c=v.heap.size:=⟨_,rfl⟩
   rw[←ec]at H2⊢
   have H3:=H2.two
   exact h111.out c0 c1 _ H3
 ·skip
  intro c0 c1 v H0
  have H:Hid _:=H0
  clear H0
  refine wTt ?_
  simp only[oS]
  go_wp2_with fail
  refine(Caa.out _).mono ?_
  rintro e Z ⟨rfl,hb⟩
  have H2:Hid _:=H.out.later hb (nQ _)
  clear hb H
  go_wp2_with fail
  refine⟨⟨⟨_,H2.out.tail.tail⟩,rfl⟩,?_⟩
  exact h111.out c0 c1 _ H2.out
 ·skip
  intro c0 v H0
  have H:Hid _:=H0
  clear H0
  refine wTt ?_
  simp only[oS]
  go_wp2_with fail
  have H2:=H.out.alloc (Iv .u64 [0,0,0,0,0]) 211
  refine⟨⟨⟨_,H2.tail.tail⟩,rfl⟩,?_⟩
  obtain⟨c1,ec⟩:∃c,c=v.heap.size:=⟨_,rfl⟩
  rw[←ec]at H2⊢
  have H3:=H2
  exact h211.out c0 c1 _ H3
 ·skip
  intro c1 v H0
  have H:Hid _:=H0
  clear H0
  refine wTt ?_
  simp only[oS]
  go_wp2_with fail
  have H2:=H.out.alloc (Iv .u64 [0,0,0,0,0]) 211
  refine⟨⟨⟨_,H2.tail.tail⟩,rfl⟩,?_⟩
  obtain⟨c0,ec⟩:∃c,c=v.heap.size:=⟨_,rfl⟩
  rw[←ec]at H2⊢
  have H3:=H2.two
  exact h211.out c0 c1 _ H3
 ·skip
  intro c0 c1 v H0
  have H:Hid _:=H0
  clear H0
  refine wTt ?_
  simp only[oS]
  go_wp2_with fail
  refine(Cbb.out _).mono ?_
  rintro e Z ⟨rfl,hb⟩
  have H2:Hid _:=H.out.later hb (nQ _)
  clear hb H
  go_wp2_with fail
  refine⟨⟨⟨_,H2.out.tail.tail⟩,rfl⟩,?_⟩
  exact h211.out c0 c1 _ H2.out
 intro baa bbb v6 H0
 have H:Hid _:=H0
 clear H0
 try clear FD
 have F:Hid _:=H.out
 clear H
 refine wTt ?_
 simp only[oS]
 have KA:Hid _:=F.out.at (mC _ mQ)
 go_wp2_with(refine wpPr rfl 211 _ _ rfl baa (Iv .u64 aa) rfl rfl _ _ KA.out (aZ laa.out) (pU laa.out) (aH _ _) (fun v8 hP=>sH ?_))
 refine aG ?_
 have F1:Hid _:=F.out.put1 hP
 clear hP KA F
 have F:Hid _:=F1.out
 clear F1
 go_wp2_with fail
 refine⟨⟨⟨_,F.out.tail.tail⟩,rfl⟩,?_⟩
 refine wTl ?_
 simp only[oS]
 have KA:Hid _:=F.out.at mQ
 go_wp2_with(refine wpPr rfl 211 _ _ rfl bbb (Iv .u64 bb) rfl rfl _ _ KA.out (aZ lbb.out) (pU lbb.out) (aH _ _) (fun v9 hP=>sH ?_))
 refine aG ?_
 have F1:Hid _:=F.out.put0 hP
 clear hP KA F
 have F:Hid _:=F1.out
 clear F1
 refine bN ?_
 have G0:Hid _:=F.out.at (mC _ mQ)
 have G1:Hid _:=F.out.at mQ
 go_wp2_with(with_reducible refine aI ?_;first
  | refine wpLr rfl 211 _ rfl baa rfl _ (Iv .u64 aa) _ _ G0.out underlying211 rfl (aZ laa.out) ?_
  | refine wpLr rfl 211 _ rfl bbb rfl _ (Iv .u64 bb) _ _ G1.out underlying211 rfl (aZ lbb.out) ?_)
 clear G0 G1
 refine(Cg.out _).mono ?_
 rintro e9 v10 ⟨rfl,hb⟩
 have F1:Hid _:=F.out.later hb (nQ _)
 clear hb F
 have F:Hid _:=F1.out
 clear F1
 have KA:Hid ((v10.alloc (.cells (Iv .u64 [0,0,0,0,0]) 211)).heap[v10.heap.size]? =some (.cells (Iv .u64 [0,0,0,0,0]) 211)):=hAN _ _
 go_wp2_with(refine wpPr rfl 211 _ _ rfl v10.heap.size (Iv .u64 g) rfl rfl _ _ KA.out (aZ lg.out) (pU lg.out) (aH _ _) (fun v11 hP=>sH ?_))
 refine aG ?_
 have F1:=F.out.newRow hP
 obtain⟨bg,eb⟩:∃x,x=v10.heap.size:=⟨_,rfl⟩
 rw[←eb]at F1⊢
 clear eb F hP KA
 have F:Hid _:=F1
 clear F1
 go_wp2_with fail
 have FD:Hid _:=F.out.drew
 clear F
 refine wRt 9 (fun w'=>∃x:Wp (fun v=>Rn w [rE bg g,rE bbb bb,rE baa aa,rE bd d,rE bc c,rE bb_ b,rE ba a,rR (w.heap.size+1+1+1+1) (aA 10),rR (w.heap.size+1+1+1) (aA 10),rR (w.heap.size+1+1) (qx++qz),rR (w.heap.size+1) (px++pz),rE w.heap.size u] v),w'=x.w) (.held [0,1,3,4] (.fork3 2 (.fork3 5 (.fork 6 (.tail 7 (.tail 8 (.last 9 .done))) 7 (.tail 6 (.tail 8 (.last 9 .done)))) 6 (.fork 5 (.tail 7 (.tail 8 (.last 9 .done))) 7 (.tail 5 (.tail 8 (.last 9 .done)))) 7 (.fork 5 (.tail 6 (.tail 8 (.last 9 .done))) 6 (.tail 5 (.tail 8 (.last 9 .done))))) 6 (.fork 2 (.fork 5 (.tail 7 (.tail 8 (.last 9 .done))) 7 (.tail 5 (.tail 8 (.last 9 .done)))) 7 (.tail 2 (.tail 5 (.tail 8 (.last 9 .done))))) 7 (.fork 2 (.fork 5 (.tail 6 (.tail 8 (.last 9 .done))) 6 (.tail 5 (.tail 8 (.last 9 .done)))) 6 (.tail 2 (.tail 5 (.tail 8 (.last 9 .done))))))) kJ (by kernel_rfl) ⟨⟨_,FD.out⟩,rfl⟩ ?_
 obtain⟨V,eV⟩:∃V,V=v11.drew:=⟨_,rfl⟩
 rw[←eV]at FD⊢
 clear eV
 refine wTh ?_
 simp only[oS]
 refine wqLr rfl 211 _ rfl bd rfl _ (Iv .u64 d) _ _ (fun w' hw'=>by obtain⟨x,rfl⟩:=hw';exact x.p.at (mC _ (mC _ (mC _ mQ)))) underlying211 rfl (aZ ld.out) ?_
 simp only[pS]
 refine wqLr rfl 211 _ rfl ba rfl _ (Iv .u64 a) _ _ (fun w' hw'=>by obtain⟨x,rfl⟩:=hw';exact x.p.at (mC _ (mC _ (mC _ (mC _ (mC _ (mC _ mQ))))))) underlying211 rfl (aZ la.out) ?_
 simp only[pS]
 refine wqLr rfl 211 _ rfl bc rfl _ (Iv .u64 c) _ _ (fun w' hw'=>by obtain⟨x,rfl⟩:=hw';exact x.p.at (mC _ (mC _ (mC _ (mC _ mQ))))) underlying211 rfl (aZ lc.out) ?_
 simp only[pS]
 refine wqLr rfl 211 _ rfl bb_ rfl _ (Iv .u64 b) _ _ (fun w' hw'=>by obtain⟨x,rfl⟩:=hw';exact x.p.at (mC _ (mC _ (mC _ (mC _ (mC _ mQ)))))) underlying211 rfl (aZ lb.out) ?_
 simp only[pS]
 refine wqN ?_
 apply iE (.tail 8 (.last 9 .done)) (fun c0 c1 v=>Rn w [rZ c1,rZ c0,rE bg g,rE bbb bb,rE baa aa,rE bd d,rE bc c,rE bb_ b,rE ba a,rR (w.heap.size+1+1+1+1) (aA 10),rR (w.heap.size+1+1+1) (aA 10),rR (w.heap.size+1+1) (qx++qz),rR (w.heap.size+1) (px++pz),rE w.heap.size u] v)
 intro h211
 apply iE (.tail 5 (.tail 8 (.last 9 .done))) (fun c0 c1 v=>Rn w [rZ c1,rZ c0,rE bg g,rE bbb bb,rE baa aa,rE bd d,rE bc c,rE bb_ b,rE ba a,rR (w.heap.size+1+1+1+1) (aA 10),rR (w.heap.size+1+1+1) (aA 10),rR (w.heap.size+1+1) (qx++qz),rR (w.heap.size+1) (px++pz),rE w.heap.size u] v)
 intro h111
 apply aW (.tail 6 (.tail 8 (.last 9 .done))) (fun c1 v=>Rn w [rZ c1,rE bg g,rE bbb bb,rE baa aa,rE bd d,rE bc c,rE bb_ b,rE ba a,rR (w.heap.size+1+1+1+1) (aA 10),rR (w.heap.size+1+1+1) (aA 10),rR (w.heap.size+1+1) (qx++qz),rR (w.heap.size+1) (px++pz),rE w.heap.size u] v)
 intro h201
 apply aW (.tail 7 (.tail 8 (.last 9 .done))) (fun c0 v=>Rn w [rZ c0,rE bg g,rE bbb bb,rE baa aa,rE bd d,rE bc c,rE bb_ b,rE ba a,rR (w.heap.size+1+1+1+1) (aA 10),rR (w.heap.size+1+1+1) (aA 10),rR (w.heap.size+1+1) (qx++qz),rR (w.heap.size+1) (px++pz),rE w.heap.size u] v)
 intro h210
 apply iE (.tail 2 (.tail 5 (.tail 8 (.last 9 .done)))) (fun c0 c1 v=>Rn w [rZ c1,rZ c0,rE bg g,rE bbb bb,rE baa aa,rE bd d,rE bc c,rE bb_ b,rE ba a,rR (w.heap.size+1+1+1+1) (aA 10),rR (w.heap.size+1+1+1) (aA 10),rR (w.heap.size+1+1) (qx++qz),rR (w.heap.size+1) (px++pz),rE w.heap.size u] v)
 intro h011
 apply aW (.fork 5 (.tail 6 (.tail 8 (.last 9 .done))) 6 (.tail 5 (.tail 8 (.last 9 .done)))) (fun c1 v=>Rn w [rZ c1,rE bg g,rE bbb bb,rE baa aa,rE bd d,rE bc c,rE bb_ b,rE ba a,rR (w.heap.size+1+1+1+1) (aA 10),rR (w.heap.size+1+1+1) (aA 10),rR (w.heap.size+1+1) (qx++qz),rR (w.heap.size+1) (px++pz),rE w.heap.size u] v)
 intro h101
 apply aW (.fork 5 (.tail 7 (.tail 8 (.last 9 .done))) 7 (.tail 5 (.tail 8 (.last 9 .done)))) (fun c0 v=>Rn w [rZ c0,rE bg g,rE bbb bb,rE baa aa,rE bd d,rE bc c,rE bb_ b,rE ba a,rR (w.heap.size+1+1+1+1) (aA 10),rR (w.heap.size+1+1+1) (aA 10),rR (w.heap.size+1+1) (qx++qz),rR (w.heap.size+1) (px++pz),rE w.heap.size u] v)
 intro h110
 apply lY (.fork 6 (.tail 7 (.tail 8 (.last 9 .done))) 7 (.tail 6 (.tail 8 (.last 9 .done)))) (fun v=>Rn w [rE bg g,rE bbb bb,rE baa aa,rE bd d,rE bc c,rE bb_ b,rE ba a,rR (w.heap.size+1+1+1+1) (aA 10),rR (w.heap.size+1+1+1) (aA 10),rR (w.heap.size+1+1) (qx++qz),rR (w.heap.size+1) (px++pz),rE w.heap.size u] v)
 intro h200
 apply aW (.fork 2 (.fork 5 (.tail 6 (.tail 8 (.last 9 .done))) 6 (.tail 5 (.tail 8 (.last 9 .done)))) 6 (.tail 2 (.tail 5 (.tail 8 (.last 9 .done))))) (fun c1 v=>Rn w [rZ c1,rE bg g,rE bbb bb,rE baa aa,rE bd d,rE bc c,rE bb_ b,rE ba a,rR (w.heap.size+1+1+1+1) (aA 10),rR (w.heap.size+1+1+1) (aA 10),rR (w.heap.size+1+1) (qx++qz),rR (w.heap.size+1) (px++pz),rE w.heap.size u] v)
 intro h001
 apply aW (.fork 2 (.fork 5 (.tail 7 (.tail 8 (.last 9 .done))) 7 (.tail 5 (.tail 8 (.last 9 .done)))) 7 (.tail 2 (.tail 5 (.tail 8 (.last 9 .done))))) (fun c0 v=>Rn w [rZ c0,rE bg g,rE bbb bb,rE baa aa,rE bd d,rE bc c,rE bb_ b,rE ba a,rR (w.heap.size+1+1+1+1) (aA 10),rR (w.heap.size+1+1+1) (aA 10),rR (w.heap.size+1+1) (qx++qz),rR (w.heap.size+1) (px++pz),rE w.heap.size u] v)
 intro h010
 apply lY (.fork3 5 (.fork 6 (.tail 7 (.tail 8 (.last 9 .done))) 7 (.tail 6 (.tail 8 (.last 9 .done)))) 6 (.fork 5 (.tail 7 (.tail 8 (.last 9 .done))) 7 (.tail 5 (.tail 8 (.last 9 .done)))) 7 (.fork 5 (.tail 6 (.tail 8 (.last 9 .done))) 6 (.tail 5 (.tail 8 (.last 9 .done))))) (fun v=>Rn w [rE bg g,rE bbb bb,rE baa aa,rE bd d,rE bc c,rE bb_ b,rE ba a,rR (w.heap.size+1+1+1+1) (aA 10),rR (w.heap.size+1+1+1) (aA 10),rR (w.heap.size+1+1) (qx++qz),rR (w.heap.size+1) (px++pz),rE w.heap.size u] v)
 intro h100
 have H:Hid _:=FD.out
 ·skip
  refine wTf3 ?_ ?_ ?_
  ·skip
   simp only[oS]
   go_wp2_with fail
   refine(Cda.out _).mono ?_
   rintro e Z ⟨rfl,hb⟩
   have H2:Hid _:=H.out.later hb (nQ _)
   clear hb H
   go_wp2_with fail
   refine⟨⟨⟨_,H2.out⟩,rfl⟩,?_⟩
   exact h100.out  _ H2.out
  ·skip
   simp only[oS]
   go_wp2_with fail
   have H2:=H.out.alloc (Iv .u64 [0,0,0,0,0]) 211
   refine⟨⟨⟨_,H2.tail⟩,rfl⟩,?_⟩
   obtain⟨c0,ec⟩:∃c,c=V.heap.size:=⟨_,rfl⟩
   rw[←ec]at H2⊢
   have H3:=H2
   exact h010.out c0 _ H3
  ·skip
   simp only[oS]
   go_wp2_with fail
   have H2:=H.out.alloc (Iv .u64 [0,0,0,0,0]) 211
   refine⟨⟨⟨_,H2.tail⟩,rfl⟩,?_⟩
   obtain⟨c1,ec⟩:∃c,c=V.heap.size:=⟨_,rfl⟩
   rw[←ec]at H2⊢
   have H3:=H2
   exact h001.out c1 _ H3
 ·skip
  intro  v H0
  have H:Hid _:=H0
  clear H0
  refine wTf3 ?_ ?_ ?_
  ·skip
   simp only[oS]
   go_wp2_with fail
   refine(Ccb.out _).mono ?_
   rintro e Z ⟨rfl,hb⟩
   have H2:Hid _:=H.out.later hb (nQ _)
   clear hb H
   go_wp2_with fail
   refine⟨⟨⟨_,H2.out⟩,rfl⟩,?_⟩
   exact h200.out  _ H2.out
  ·skip
   simp only[oS]
   go_wp2_with fail
   have H2:=H.out.alloc (Iv .u64 [0,0,0,0,0]) 211
   refine⟨⟨⟨_,H2.tail⟩,rfl⟩,?_⟩
   obtain⟨c0,ec⟩:∃c,c=v.heap.size:=⟨_,rfl⟩
   rw[←ec]at H2⊢
   have H3:=H2
   exact h110.out c0 _ H3
  ·skip
   simp only[oS]
   go_wp2_with fail
   have H2:=H.out.alloc (Iv .u64 [0,0,0,0,0]) 211
   refine⟨⟨⟨_,H2.tail⟩,rfl⟩,?_⟩
   obtain⟨c1,ec⟩:∃c,c=v.heap.size:=⟨_,rfl⟩
   rw[←ec]at H2⊢
   have H3:=H2
   exact h101.out c1 _ H3
 ·skip
  intro c0 v H0
  have H:Hid _:=H0
  clear H0
  refine wTf ?_ ?_
  ·skip
   simp only[oS]
   go_wp2_with fail
   refine(Cda.out _).mono ?_
   rintro e Z ⟨rfl,hb⟩
   have H2:Hid _:=H.out.later hb (nQ _)
   clear hb H
   go_wp2_with fail
   refine⟨⟨⟨_,H2.out.tail⟩,rfl⟩,?_⟩
   exact h110.out c0 _ H2.out
  ·skip
   simp only[oS]
   go_wp2_with fail
   have H2:=H.out.alloc (Iv .u64 [0,0,0,0,0]) 211
   refine⟨⟨⟨_,H2.tail.tail⟩,rfl⟩,?_⟩
   obtain⟨c1,ec⟩:∃c,c=v.heap.size:=⟨_,rfl⟩
   rw[←ec]at H2⊢
   have H3:=H2
   exact h011.out c0 c1 _ H3
 ·skip
  intro c1 v H0
  have H:Hid _:=H0
  clear H0
  refine wTf ?_ ?_
  ·skip
   simp only[oS]
   go_wp2_with fail
   refine(Cda.out _).mono ?_
   rintro e Z ⟨rfl,hb⟩
   have H2:Hid _:=H.out.later hb (nQ _)
   clear hb H
   go_wp2_with fail
   refine⟨⟨⟨_,H2.out.tail⟩,rfl⟩,?_⟩
   exact h101.out c1 _ H2.out
  ·skip
   simp only[oS]
   go_wp2_with fail
   have H2:=H.out.alloc (Iv .u64 [0,0,0,0,0]) 211
   refine⟨⟨⟨_,H2.tail.tail⟩,rfl⟩,?_⟩
   obtain⟨c0,ec⟩:∃c,c=v.heap.size:=⟨_,rfl⟩
   rw[←ec]at H2⊢
   have H3:=H2.two
   exact h011.out c0 c1 _ H3
 ·skip
  intro  v H0
  have H:Hid _:=H0
  clear H0
  refine wTf ?_ ?_
  ·skip
   simp only[oS]
   go_wp2_with fail
   have H2:=H.out.alloc (Iv .u64 [0,0,0,0,0]) 211
   refine⟨⟨⟨_,H2.tail⟩,rfl⟩,?_⟩
   obtain⟨c0,ec⟩:∃c,c=v.heap.size:=⟨_,rfl⟩
   rw[←ec]at H2⊢
   have H3:=H2
   exact h210.out c0 _ H3
  ·skip
   simp only[oS]
   go_wp2_with fail
   have H2:=H.out.alloc (Iv .u64 [0,0,0,0,0]) 211
   refine⟨⟨⟨_,H2.tail⟩,rfl⟩,?_⟩
   obtain⟨c1,ec⟩:∃c,c=v.heap.size:=⟨_,rfl⟩
   rw[←ec]at H2⊢
   have H3:=H2
   exact h201.out c1 _ H3
 ·skip
  intro c0 v H0
  have H:Hid _:=H0
  clear H0
  refine wTf ?_ ?_
  ·skip
   simp only[oS]
   go_wp2_with fail
   refine(Ccb.out _).mono ?_
   rintro e Z ⟨rfl,hb⟩
   have H2:Hid _:=H.out.later hb (nQ _)
   clear hb H
   go_wp2_with fail
   refine⟨⟨⟨_,H2.out.tail⟩,rfl⟩,?_⟩
   exact h210.out c0 _ H2.out
  ·skip
   simp only[oS]
   go_wp2_with fail
   have H2:=H.out.alloc (Iv .u64 [0,0,0,0,0]) 211
   refine⟨⟨⟨_,H2.tail.tail⟩,rfl⟩,?_⟩
   obtain⟨c1,ec⟩:∃c,c=v.heap.size:=⟨_,rfl⟩
   rw[←ec]at H2⊢
   have H3:=H2
   exact h111.out c0 c1 _ H3
 ·skip
  intro c1 v H0
  have H:Hid _:=H0
  clear H0
  refine wTf ?_ ?_
  ·skip
   simp only[oS]
   go_wp2_with fail
   refine(Ccb.out _).mono ?_
   rintro e Z ⟨rfl,hb⟩
   have H2:Hid _:=H.out.later hb (nQ _)
   clear hb H
   go_wp2_with fail
   refine⟨⟨⟨_,H2.out.tail⟩,rfl⟩,?_⟩
   exact h201.out c1 _ H2.out
  ·skip
   simp only[oS]
   go_wp2_with fail
   have H2:=H.out.alloc (Iv .u64 [0,0,0,0,0]) 211
   refine⟨⟨⟨_,H2.tail.tail⟩,rfl⟩,?_⟩
   obtain⟨c0,ec⟩:∃c,c=v.heap.size:=⟨_,rfl⟩
   rw[←ec]at H2⊢
   have H3:=H2.two
   exact h111.out c0 c1 _ H3
 ·skip
  intro c0 c1 v H0
  have H:Hid _:=H0
  clear H0
  refine wTt ?_
  simp only[oS]
  go_wp2_with fail
  refine(Cda.out _).mono ?_
  rintro e Z ⟨rfl,hb⟩
  have H2:Hid _:=H.out.later hb (nQ _)
  clear hb H
  go_wp2_with fail
  refine⟨⟨⟨_,H2.out.tail.tail⟩,rfl⟩,?_⟩
  exact h111.out c0 c1 _ H2.out
 ·skip
  intro c0 v H0
  have H:Hid _:=H0
  clear H0
  refine wTt ?_
  simp only[oS]
  go_wp2_with fail
  have H2:=H.out.alloc (Iv .u64 [0,0,0,0,0]) 211
  refine⟨⟨⟨_,H2.tail.tail⟩,rfl⟩,?_⟩
  obtain⟨c1,ec⟩:∃c,c=v.heap.size:=⟨_,rfl⟩
  rw[←ec]at H2⊢
  have H3:=H2
  exact h211.out c0 c1 _ H3
 ·skip
  intro c1 v H0
  have H:Hid _:=H0
  clear H0
  refine wTt ?_
  simp only[oS]
  go_wp2_with fail
  have H2:=H.out.alloc (Iv .u64 [0,0,0,0,0]) 211
  refine⟨⟨⟨_,H2.tail.tail⟩,rfl⟩,?_⟩
  obtain⟨c0,ec⟩:∃c,c=v.heap.size:=⟨_,rfl⟩
  rw[←ec]at H2⊢
  have H3:=H2.two
  exact h211.out c0 c1 _ H3
 ·skip
  intro c0 c1 v H0
  have H:Hid _:=H0
  clear H0
  refine wTt ?_
  simp only[oS]
  go_wp2_with fail
  refine(Ccb.out _).mono ?_
  rintro e Z ⟨rfl,hb⟩
  have H2:Hid _:=H.out.later hb (nQ _)
  clear hb H
  go_wp2_with fail
  refine⟨⟨⟨_,H2.out.tail.tail⟩,rfl⟩,?_⟩
  exact h211.out c0 c1 _ H2.out
 intro bda bcb v11 H0
 have H:Hid _:=H0
 clear H0
 try clear FD
 have F:Hid _:=H.out
 clear H
 refine wTt ?_
 simp only[oS]
 have KA:Hid _:=F.out.at (mC _ mQ)
 go_wp2_with(refine wpPr rfl 211 _ _ rfl bda (Iv .u64 da) rfl rfl _ _ KA.out (aZ lda.out) (pU lda.out) (aH _ _) (fun v13 hP=>sH ?_))
 refine aG ?_
 have F1:Hid _:=F.out.put1 hP
 clear hP KA F
 have F:Hid _:=F1.out
 clear F1
 go_wp2_with fail
 refine⟨⟨⟨_,F.out.tail.tail⟩,rfl⟩,?_⟩
 refine wTl ?_
 simp only[oS]
 have KA:Hid _:=F.out.at mQ
 go_wp2_with(refine wpPr rfl 211 _ _ rfl bcb (Iv .u64 cb) rfl rfl _ _ KA.out (aZ lcb.out) (pU lcb.out) (aH _ _) (fun v14 hP=>sH ?_))
 refine aG ?_
 have F1:Hid _:=F.out.put0 hP
 clear hP KA F
 have F:Hid _:=F1.out
 clear F1
 refine bN ?_
 go_wp2_with fail
 have FD:Hid _:=F.out.drew
 clear F
 refine wRt 9 (fun w'=>∃x:Wp (fun v=>Rn w [rE bcb cb,rE bda da,rE bg g,rE bbb bb,rE baa aa,rE bd d,rE bc c,rE bb_ b,rE ba a,rR (w.heap.size+1+1+1+1) (aA 10),rR (w.heap.size+1+1+1) (aA 10),rR (w.heap.size+1+1) (qx++qz),rR (w.heap.size+1) (px++pz),rE w.heap.size u] v),w'=x.w) (.held [0,1,3,4] (.fork3 2 (.fork3 5 (.fork 6 (.tail 7 (.tail 8 (.last 9 .done))) 7 (.tail 6 (.tail 8 (.last 9 .done)))) 6 (.fork 5 (.tail 7 (.tail 8 (.last 9 .done))) 7 (.tail 5 (.tail 8 (.last 9 .done)))) 7 (.fork 5 (.tail 6 (.tail 8 (.last 9 .done))) 6 (.tail 5 (.tail 8 (.last 9 .done))))) 6 (.fork 2 (.fork 5 (.tail 7 (.tail 8 (.last 9 .done))) 7 (.tail 5 (.tail 8 (.last 9 .done)))) 7 (.tail 2 (.tail 5 (.tail 8 (.last 9 .done))))) 7 (.fork 2 (.fork 5 (.tail 6 (.tail 8 (.last 9 .done))) 6 (.tail 5 (.tail 8 (.last 9 .done)))) 6 (.tail 2 (.tail 5 (.tail 8 (.last 9 .done))))))) kJ (by kernel_rfl) ⟨⟨_,FD.out⟩,rfl⟩ ?_
 obtain⟨V,eV⟩:∃V,V=v14.drew:=⟨_,rfl⟩
 rw[←eV]at FD⊢
 clear eV
 refine wTh ?_
 simp only[oS]
 refine wqLr rfl 211 _ rfl bda rfl _ (Iv .u64 da) _ _ (fun w' hw'=>by obtain⟨x,rfl⟩:=hw';exact x.p.at (mC _ mQ)) underlying211 rfl (aZ lda.out) ?_
 simp only[pS]
 refine wqLr rfl 211 _ rfl bcb rfl _ (Iv .u64 cb) _ _ (fun w' hw'=>by obtain⟨x,rfl⟩:=hw';exact x.p.at mQ) underlying211 rfl (aZ lcb.out) ?_
 simp only[pS]
 refine wqLr rfl 211 _ rfl bda rfl _ (Iv .u64 da) _ _ (fun w' hw'=>by obtain⟨x,rfl⟩:=hw';exact x.p.at (mC _ mQ)) underlying211 rfl (aZ lda.out) ?_
 simp only[pS]
 refine wqLr rfl 211 _ rfl bcb rfl _ (Iv .u64 cb) _ _ (fun w' hw'=>by obtain⟨x,rfl⟩:=hw';exact x.p.at mQ) underlying211 rfl (aZ lcb.out) ?_
 simp only[pS]
 refine wqN ?_
 apply iE (.tail 8 (.last 9 .done)) (fun c0 c1 v=>Rn w [rZ c1,rZ c0,rE bcb cb,rE bda da,rE bg g,rE bbb bb,rE baa aa,rE bd d,rE bc c,rE bb_ b,rE ba a,rR (w.heap.size+1+1+1+1) (aA 10),rR (w.heap.size+1+1+1) (aA 10),rR (w.heap.size+1+1) (qx++qz),rR (w.heap.size+1) (px++pz),rE w.heap.size u] v)
 intro h211
 apply iE (.tail 5 (.tail 8 (.last 9 .done))) (fun c0 c1 v=>Rn w [rZ c1,rZ c0,rE bcb cb,rE bda da,rE bg g,rE bbb bb,rE baa aa,rE bd d,rE bc c,rE bb_ b,rE ba a,rR (w.heap.size+1+1+1+1) (aA 10),rR (w.heap.size+1+1+1) (aA 10),rR (w.heap.size+1+1) (qx++qz),rR (w.heap.size+1) (px++pz),rE w.heap.size u] v)
 intro h111
 apply aW (.tail 6 (.tail 8 (.last 9 .done))) (fun c1 v=>Rn w [rZ c1,rE bcb cb,rE bda da,rE bg g,rE bbb bb,rE baa aa,rE bd d,rE bc c,rE bb_ b,rE ba a,rR (w.heap.size+1+1+1+1) (aA 10),rR (w.heap.size+1+1+1) (aA 10),rR (w.heap.size+1+1) (qx++qz),rR (w.heap.size+1) (px++pz),rE w.heap.size u] v)
 intro h201
 apply aW (.tail 7 (.tail 8 (.last 9 .done))) (fun c0 v=>Rn w [rZ c0,rE bcb cb,rE bda da,rE bg g,rE bbb bb,rE baa aa,rE bd d,rE bc c,rE bb_ b,rE ba a,rR (w.heap.size+1+1+1+1) (aA 10),rR (w.heap.size+1+1+1) (aA 10),rR (w.heap.size+1+1) (qx++qz),rR (w.heap.size+1) (px++pz),rE w.heap.size u] v)
 intro h210
 apply iE (.tail 2 (.tail 5 (.tail 8 (.last 9 .done)))) (fun c0 c1 v=>Rn w [rZ c1,rZ c0,rE bcb cb,rE bda da,rE bg g,rE bbb bb,rE baa aa,rE bd d,rE bc c,rE bb_ b,rE ba a,rR (w.heap.size+1+1+1+1) (aA 10),rR (w.heap.size+1+1+1) (aA 10),rR (w.heap.size+1+1) (qx++qz),rR (w.heap.size+1) (px++pz),rE w.heap.size u] v)
 intro h011
 apply aW (.fork 5 (.tail 6 (.tail 8 (.last 9 .done))) 6 (.tail 5 (.tail 8 (.last 9 .done)))) (fun c1 v=>Rn w [rZ c1,rE bcb cb,rE bda da,rE bg g,rE bbb bb,rE baa aa,rE bd d,rE bc c,rE bb_ b,rE ba a,rR (w.heap.size+1+1+1+1) (aA 10),rR (w.heap.size+1+1+1) (aA 10),rR (w.heap.size+1+1) (qx++qz),rR (w.heap.size+1) (px++pz),rE w.heap.size u] v)
 intro h101
 apply aW (.fork 5 (.tail 7 (.tail 8 (.last 9 .done))) 7 (.tail 5 (.tail 8 (.last 9 .done)))) (fun c0 v=>Rn w [rZ c0,rE bcb cb,rE bda da,rE bg g,rE bbb bb,rE baa aa,rE bd d,rE bc c,rE bb_ b,rE ba a,rR (w.heap.size+1+1+1+1) (aA 10),rR (w.heap.size+1+1+1) (aA 10),rR (w.heap.size+1+1) (qx++qz),rR (w.heap.size+1) (px++pz),rE w.heap.size u] v)
 intro h110
 apply lY (.fork 6 (.tail 7 (.tail 8 (.last 9 .done))) 7 (.tail 6 (.tail 8 (.last 9 .done)))) (fun v=>Rn w [rE bcb cb,rE bda da,rE bg g,rE bbb bb,rE baa aa,rE bd d,rE bc c,rE bb_ b,rE ba a,rR (w.heap.size+1+1+1+1) (aA 10),rR (w.heap.size+1+1+1) (aA 10),rR (w.heap.size+1+1) (qx++qz),rR (w.heap.size+1) (px++pz),rE w.heap.size u] v)
 intro h200
 apply aW (.fork 2 (.fork 5 (.tail 6 (.tail 8 (.last 9 .done))) 6 (.tail 5 (.tail 8 (.last 9 .done)))) 6 (.tail 2 (.tail 5 (.tail 8 (.last 9 .done))))) (fun c1 v=>Rn w [rZ c1,rE bcb cb,rE bda da,rE bg g,rE bbb bb,rE baa aa,rE bd d,rE bc c,rE bb_ b,rE ba a,rR (w.heap.size+1+1+1+1) (aA 10),rR (w.heap.size+1+1+1) (aA 10),rR (w.heap.size+1+1) (qx++qz),rR (w.heap.size+1) (px++pz),rE w.heap.size u] v)
 intro h001
 apply aW (.fork 2 (.fork 5 (.tail 7 (.tail 8 (.last 9 .done))) 7 (.tail 5 (.tail 8 (.last 9 .done)))) 7 (.tail 2 (.tail 5 (.tail 8 (.last 9 .done))))) (fun c0 v=>Rn w [rZ c0,rE bcb cb,rE bda da,rE bg g,rE bbb bb,rE baa aa,rE bd d,rE bc c,rE bb_ b,rE ba a,rR (w.heap.size+1+1+1+1) (aA 10),rR (w.heap.size+1+1+1) (aA 10),rR (w.heap.size+1+1) (qx++qz),rR (w.heap.size+1) (px++pz),rE w.heap.size u] v)
 intro h010
 apply lY (.fork3 5 (.fork 6 (.tail 7 (.tail 8 (.last 9 .done))) 7 (.tail 6 (.tail 8 (.last 9 .done)))) 6 (.fork 5 (.tail 7 (.tail 8 (.last 9 .done))) 7 (.tail 5 (.tail 8 (.last 9 .done)))) 7 (.fork 5 (.tail 6 (.tail 8 (.last 9 .done))) 6 (.tail 5 (.tail 8 (.last 9 .done))))) (fun v=>Rn w [rE bcb cb,rE bda da,rE bg g,rE bbb bb,rE baa aa,rE bd d,rE bc c,rE bb_ b,rE ba a,rR (w.heap.size+1+1+1+1) (aA 10),rR (w.heap.size+1+1+1) (aA 10),rR (w.heap.size+1+1) (qx++qz),rR (w.heap.size+1) (px++pz),rE w.heap.size u] v)
 intro h100
 have H:Hid _:=FD.out
 ·skip
  refine wTf3 ?_ ?_ ?_
  ·skip
   simp only[oS]
   go_wp2_with fail
   refine(Cs.out _).mono ?_
   rintro e Z ⟨rfl,hb⟩
   have H2:Hid _:=H.out.later hb (nQ _)
   clear hb H
   go_wp2_with fail
   refine⟨⟨⟨_,H2.out⟩,rfl⟩,?_⟩
   exact h100.out  _ H2.out
  ·skip
   simp only[oS]
   go_wp2_with fail
   have H2:=H.out.alloc (Iv .u64 [0,0,0,0,0]) 211
   refine⟨⟨⟨_,H2.tail⟩,rfl⟩,?_⟩
   obtain⟨c0,ec⟩:∃c,c=V.heap.size:=⟨_,rfl⟩
   rw[←ec]at H2⊢
   have H3:=H2
   exact h010.out c0 _ H3
  ·skip
   simp only[oS]
   go_wp2_with fail
   have H2:=H.out.alloc (Iv .u64 [0,0,0,0,0]) 211
   refine⟨⟨⟨_,H2.tail⟩,rfl⟩,?_⟩
   obtain⟨c1,ec⟩:∃c,c=V.heap.size:=⟨_,rfl⟩
   rw[←ec]at H2⊢
   have H3:=H2
   exact h001.out c1 _ H3
 ·skip
  intro  v H0
  have H:Hid _:=H0
  clear H0
  refine wTf3 ?_ ?_ ?_
  ·skip
   simp only[oS]
   go_wp2_with fail
   refine(Cf.out _).mono ?_
   rintro e Z ⟨rfl,hb⟩
   have H2:Hid _:=H.out.later hb (nQ _)
   clear hb H
   go_wp2_with fail
   refine⟨⟨⟨_,H2.out⟩,rfl⟩,?_⟩
   exact h200.out  _ H2.out
  ·skip
   simp only[oS]
   go_wp2_with fail
   have H2:=H.out.alloc (Iv .u64 [0,0,0,0,0]) 211
   refine⟨⟨⟨_,H2.tail⟩,rfl⟩,?_⟩
   obtain⟨c0,ec⟩:∃c,c=v.heap.size:=⟨_,rfl⟩
   rw[←ec]at H2⊢
   have H3:=H2
   exact h110.out c0 _ H3
  ·skip
   simp only[oS]
   go_wp2_with fail
   have H2:=H.out.alloc (Iv .u64 [0,0,0,0,0]) 211
   refine⟨⟨⟨_,H2.tail⟩,rfl⟩,?_⟩
   obtain⟨c1,ec⟩:∃c,c=v.heap.size:=⟨_,rfl⟩
   rw[←ec]at H2⊢
   have H3:=H2
   exact h101.out c1 _ H3
 ·skip
  intro c0 v H0
  have H:Hid _:=H0
  clear H0
  refine wTf ?_ ?_
  ·skip
   simp only[oS]
   go_wp2_with fail
   refine(Cs.out _).mono ?_
   rintro e Z ⟨rfl,hb⟩
   have H2:Hid _:=H.out.later hb (nQ _)
   clear hb H
   go_wp2_with fail
   refine⟨⟨⟨_,H2.out.tail⟩,rfl⟩,?_⟩
   exact h110.out c0 _ H2.out
  ·skip
   simp only[oS]
   go_wp2_with fail
   have H2:=H.out.alloc (Iv .u64 [0,0,0,0,0]) 211
   refine⟨⟨⟨_,H2.tail.tail⟩,rfl⟩,?_⟩
   obtain⟨c1,ec⟩:∃c,c=v.heap.size:=⟨_,rfl⟩
   rw[←ec]at H2⊢
   have H3:=H2
   exact h011.out c0 c1 _ H3
 ·skip
  intro c1 v H0
  have H:Hid _:=H0
  clear H0
  refine wTf ?_ ?_
  ·skip
   simp only[oS]
   go_wp2_with fail
   refine(Cs.out _).mono ?_
   rintro e Z ⟨rfl,hb⟩
   have H2:Hid _:=H.out.later hb (nQ _)
   clear hb H
   go_wp2_with fail
   refine⟨⟨⟨_,H2.out.tail⟩,rfl⟩,?_⟩
   exact h101.out c1 _ H2.out
  ·skip
   simp only[oS]
   go_wp2_with fail
   have H2:=H.out.alloc (Iv .u64 [0,0,0,0,0]) 211
   refine⟨⟨⟨_,H2.tail.tail⟩,rfl⟩,?_⟩
   obtain⟨c0,ec⟩:∃c,c=v.heap.size:=⟨_,rfl⟩
   rw[←ec]at H2⊢
   have H3:=H2.two
   exact h011.out c0 c1 _ H3
 ·skip
  intro  v H0
  have H:Hid _:=H0
  clear H0
  refine wTf ?_ ?_
  ·skip
   simp only[oS]
   go_wp2_with fail
   have H2:=H.out.alloc (Iv .u64 [0,0,0,0,0]) 211
   refine⟨⟨⟨_,H2.tail⟩,rfl⟩,?_⟩
   obtain⟨c0,ec⟩:∃c,c=v.heap.size:=⟨_,rfl⟩
   rw[←ec]at H2⊢
   have H3:=H2
   exact h210.out c0 _ H3
  ·skip
   simp only[oS]
   go_wp2_with fail
   have H2:=H.out.alloc (Iv .u64 [0,0,0,0,0]) 211
   refine⟨⟨⟨_,H2.tail⟩,rfl⟩,?_⟩
   obtain⟨c1,ec⟩:∃c,c=v.heap.size:=⟨_,rfl⟩
   rw[←ec]at H2⊢
   have H3:=H2
   exact h201.out c1 _ H3
 ·skip
  intro c0 v H0
  have H:Hid _:=H0
  clear H0
  refine wTf ?_ ?_
  ·skip
   simp only[oS]
   go_wp2_with fail
   refine(Cf.out _).mono ?_
   rintro e Z ⟨rfl,hb⟩
   have H2:Hid _:=H.out.later hb (nQ _)
   clear hb H
   go_wp2_with fail
   refine⟨⟨⟨_,H2.out.tail⟩,rfl⟩,?_⟩
   exact h210.out c0 _ H2.out
  ·skip
   simp only[oS]
   go_wp2_with fail
   have H2:=H.out.alloc (Iv .u64 [0,0,0,0,0]) 211
   refine⟨⟨⟨_,H2.tail.tail⟩,rfl⟩,?_⟩
   obtain⟨c1,ec⟩:∃c,c=v.heap.size:=⟨_,rfl⟩
   rw[←ec]at H2⊢
   have H3:=H2
   exact h111.out c0 c1 _ H3
 ·skip
  intro c1 v H0
  have H:Hid _:=H0
  clear H0
  refine wTf ?_ ?_
  ·skip
   simp only[oS]
   go_wp2_with fail
   refine(Cf.out _).mono ?_
   rintro e Z ⟨rfl,hb⟩
   have H2:Hid _:=H.out.later hb (nQ _)
   clear hb H
   go_wp2_with fail
   refine⟨⟨⟨_,H2.out.tail⟩,rfl⟩,?_⟩
   exact h201.out c1 _ H2.out
  ·skip
   simp only[oS]
   go_wp2_with fail
   have H2:=H.out.alloc (Iv .u64 [0,0,0,0,0]) 211
   refine⟨⟨⟨_,H2.tail.tail⟩,rfl⟩,?_⟩
   obtain⟨c0,ec⟩:∃c,c=v.heap.size:=⟨_,rfl⟩
   rw[←ec]at H2⊢
   have H3:=H2.two
   exact h111.out c0 c1 _ H3
 ·skip
  intro c0 c1 v H0
  have H:Hid _:=H0
  clear H0
  refine wTt ?_
  simp only[oS]
  go_wp2_with fail
  refine(Cs.out _).mono ?_
  rintro e Z ⟨rfl,hb⟩
  have H2:Hid _:=H.out.later hb (nQ _)
  clear hb H
  go_wp2_with fail
  refine⟨⟨⟨_,H2.out.tail.tail⟩,rfl⟩,?_⟩
  exact h111.out c0 c1 _ H2.out
 ·skip
  intro c0 v H0
  have H:Hid _:=H0
  clear H0
  refine wTt ?_
  simp only[oS]
  go_wp2_with fail
  have H2:=H.out.alloc (Iv .u64 [0,0,0,0,0]) 211
  refine⟨⟨⟨_,H2.tail.tail⟩,rfl⟩,?_⟩
  obtain⟨c1,ec⟩:∃c,c=v.heap.size:=⟨_,rfl⟩
  rw[←ec]at H2⊢
  have H3:=H2
  exact h211.out c0 c1 _ H3
 ·skip
  intro c1 v H0
  have H:Hid _:=H0
  clear H0
  refine wTt ?_
  simp only[oS]
  go_wp2_with fail
  have H2:=H.out.alloc (Iv .u64 [0,0,0,0,0]) 211
  refine⟨⟨⟨_,H2.tail.tail⟩,rfl⟩,?_⟩
  obtain⟨c0,ec⟩:∃c,c=v.heap.size:=⟨_,rfl⟩
  rw[←ec]at H2⊢
  have H3:=H2.two
  exact h211.out c0 c1 _ H3
 ·skip
  intro c0 c1 v H0
  have H:Hid _:=H0
  clear H0
  refine wTt ?_
  simp only[oS]
  go_wp2_with fail
  refine(Cf.out _).mono ?_
  rintro e Z ⟨rfl,hb⟩
  have H2:Hid _:=H.out.later hb (nQ _)
  clear hb H
  go_wp2_with fail
  refine⟨⟨⟨_,H2.out.tail.tail⟩,rfl⟩,?_⟩
  exact h211.out c0 c1 _ H2.out
 intro bs bf v14 H0
 have H:Hid _:=H0
 clear H0
 try clear FD
 have F:Hid _:=H.out
 clear H
 refine wTt ?_
 simp only[oS]
 have KA:Hid _:=F.out.at (mC _ mQ)
 go_wp2_with(refine wpPr rfl 211 _ _ rfl bs (Iv .u64 s) rfl rfl _ _ KA.out (aZ ls.out) (pU ls.out) (aH _ _) (fun v16 hP=>sH ?_))
 refine aG ?_
 have F1:Hid _:=F.out.put1 hP
 clear hP KA F
 have F:Hid _:=F1.out
 clear F1
 go_wp2_with fail
 refine⟨⟨⟨_,F.out.tail.tail⟩,rfl⟩,?_⟩
 refine wTl ?_
 simp only[oS]
 have KA:Hid _:=F.out.at mQ
 go_wp2_with(refine wpPr rfl 211 _ _ rfl bf (Iv .u64 f) rfl rfl _ _ KA.out (aZ lf.out) (pU lf.out) (aH _ _) (fun v17 hP=>sH ?_))
 refine aG ?_
 have F1:Hid _:=F.out.put0 hP
 clear hP KA F
 have F:Hid _:=F1.out
 clear F1
 refine bN ?_
 have G0:Hid _:=F.out.at (mC _ (mC _ (mC _ (mC _ (mC _ (mC _ mQ))))))
 have G1:Hid _:=F.out.at (mC _ (mC _ (mC _ (mC _ (mC _ mQ)))))
 go_wp2_with(with_reducible refine aI ?_;first
  | refine wpLr rfl 211 _ rfl baa rfl _ (Iv .u64 aa) _ _ G0.out underlying211 rfl (aZ laa.out) ?_
  | refine wpLr rfl 211 _ rfl bbb rfl _ (Iv .u64 bb) _ _ G1.out underlying211 rfl (aZ lbb.out) ?_)
 clear G0 G1
 refine(Cx1.out _).mono ?_
 rintro e9 v18 ⟨rfl,hb⟩
 have F1:Hid _:=F.out.later hb (nQ _)
 clear hb F
 have F:Hid _:=F1.out
 clear F1
 have KA:Hid _:=F.out.at (mC _ (mC _ (mC _ (mC _ (mC _ (mC _ (mC _ (mC _ (mC _ (mC _ (mC _ (mC _ (mC _ (mC _ mQ))))))))))))))
 have hlq:Hid (x1.length=px.length):=by show _=_;rw[lx1.out,lpx.out]
 go_wp2_with(refine uR rfl 211 _ _ rfl (w.heap.size+1) .u64 x1 px pz rfl rfl _ KA.out (jI lx1.out) hlq.out (fun v19 hP=>sH ?_))
 refine aG ?_
 have F1:Hid _:=F.out.put14 hP
 clear hP KA F hlq
 have F:Hid _:=F1.out
 clear F1
 go_wp2_with fail
 have F1:Hid _:=F.out.drew
 clear F
 have F:Hid _:=F1.out
 clear F1
 refine wRt 8 (fun w'=>∃x:Wp (fun v=>Rn w [rE bf f,rE bs s,rE bcb cb,rE bda da,rE bg g,rE bbb bb,rE baa aa,rE bd d,rE bc c,rE bb_ b,rE ba a,rR (w.heap.size+1+1+1+1) (aA 10),rR (w.heap.size+1+1+1) (aA 10),rR (w.heap.size+1+1) (qx++qz),rR (w.heap.size+1) (x1++pz),rE w.heap.size u] v),w'=x.w) (.held [0,1,2,3] (.tail 4 (.tail 5 (.tail 6 (.held [7] (.last 8 .done)))))) kJ (by kernel_rfl) ⟨⟨_,F.out⟩,rfl⟩ ?_
 refine wTh ?_
 simp only[oS]
 refine wqLr rfl 211 _ rfl bg rfl _ (Iv .u64 g) _ _ (fun w' hw'=>by obtain⟨x,rfl⟩:=hw';exact x.p.at (mC _ (mC _ (mC _ (mC _ mQ))))) underlying211 rfl (aZ lg.out) ?_
 simp only[pS]
 refine wqLr rfl 211 _ rfl baa rfl _ (Iv .u64 aa) _ _ (fun w' hw'=>by obtain⟨x,rfl⟩:=hw';exact x.p.at (mC _ (mC _ (mC _ (mC _ (mC _ (mC _ mQ))))))) underlying211 rfl (aZ laa.out) ?_
 simp only[pS]
 refine wqLr rfl 211 _ rfl bg rfl _ (Iv .u64 g) _ _ (fun w' hw'=>by obtain⟨x,rfl⟩:=hw';exact x.p.at (mC _ (mC _ (mC _ (mC _ mQ))))) underlying211 rfl (aZ lg.out) ?_
 simp only[pS]
 refine bZ rfl 211 _ rfl (Iv .u64 k1) _ (by kernel_rfl) HBU.out ?_
 simp only[pS]
 refine wqN ?_
 refine wTt ?_
 simp only[oS]
 go_wp2_with fail
 refine(Ct1.out _).mono ?_
 rintro e9 v20 ⟨rfl,hb⟩
 have F1:Hid _:=F.out.later hb (nQ _)
 clear hb F
 have F:Hid _:=F1.out
 clear F1
 go_wp2_with fail
 refine⟨⟨⟨_,F.out⟩,rfl⟩,?_⟩
 refine wTt ?_
 simp only[oS]
 go_wp2_with fail
 refine(Ct2.out _).mono ?_
 rintro e9 v21 ⟨rfl,hb⟩
 have F1:Hid _:=F.out.later hb (nQ _)
 clear hb F
 have F:Hid _:=F1.out
 clear F1
 go_wp2_with fail
 refine⟨⟨⟨_,F.out⟩,rfl⟩,?_⟩
 refine wTt ?_
 simp only[oS]
 go_wp2_with fail
 refine(Cz1.out _).mono ?_
 rintro e9 v22 ⟨rfl,hb⟩
 have F1:Hid _:=F.out.later hb (nQ _)
 clear hb F
 have F:Hid _:=F1.out
 clear F1
 go_wp2_with fail
 refine⟨⟨⟨_,F.out⟩,rfl⟩,?_⟩
 refine wTh ?_
 simp only[oS]
 refine aD rfl (.pointer (some ⟨(w.heap.size+1),5,none⟩)) (fun w'=>by kernel_rfl) ?_
 simp only[pS]
 refine wqN ?_
 refine wTl ?_
 simp only[oS]
 have KA:Hid _:=F.out.at (mC _ (mC _ (mC _ (mC _ (mC _ (mC _ (mC _ (mC _ (mC _ (mC _ (mC _ (mC _ (mC _ (mC _ mQ))))))))))))))
 have hlq:Hid (z1.length=pz.length):=by show _=_;rw[lz1.out,lpz.out]
 go_wp2_with(refine uS rfl 211 _ _ rfl (w.heap.size+1) 5 .u64 z1 x1 pz rfl rfl _ KA.out (jI lz1.out) lx1.out hlq.out (fun v23 hP=>sH ?_))
 refine aG ?_
 have F1:Hid _:=F.out.put14 hP
 clear hP KA F hlq
 have F:Hid _:=F1.out
 clear F1
 refine bN ?_
 have G0:Hid _:=F.out.at (mC _ mQ)
 go_wp2_with(with_reducible refine aI ?_;first
  | refine wpLr rfl 211 _ rfl bs rfl _ (Iv .u64 s) _ _ G0.out underlying211 rfl (aZ ls.out) ?_)
 clear G0
 refine(Cx2.out _).mono ?_
 rintro e9 v24 ⟨rfl,hb⟩
 have F1:Hid _:=F.out.later hb (nQ _)
 clear hb F
 have F:Hid _:=F1.out
 clear F1
 have KA:Hid _:=F.out.at (mC _ (mC _ (mC _ (mC _ (mC _ (mC _ (mC _ (mC _ (mC _ (mC _ (mC _ (mC _ (mC _ mQ)))))))))))))
 have hlq:Hid (x2.length=qx.length):=by show _=_;rw[lx2.out,lqx.out]
 go_wp2_with(refine uR rfl 211 _ _ rfl (w.heap.size+1+1) .u64 x2 qx qz rfl rfl _ KA.out (jI lx2.out) hlq.out (fun v25 hP=>sH ?_))
 refine aG ?_
 have F1:Hid _:=F.out.put13 hP
 clear hP KA F hlq
 have F:Hid _:=F1.out
 clear F1
 go_wp2_with fail
 have F1:Hid _:=F.out.drew
 clear F
 have F:Hid _:=F1.out
 clear F1
 refine wRt 6 (fun w'=>∃x:Wp (fun v=>Rn w [rE bf f,rE bs s,rE bcb cb,rE bda da,rE bg g,rE bbb bb,rE baa aa,rE bd d,rE bc c,rE bb_ b,rE ba a,rR (w.heap.size+1+1+1+1) (aA 10),rR (w.heap.size+1+1+1) (aA 10),rR (w.heap.size+1+1) (x2++qz),rR (w.heap.size+1) (x1++z1),rE w.heap.size u] v),w'=x.w) (.held [0,1,2] (.tail 3 (.tail 4 (.held [5] (.last 6 .done))))) kJ (by kernel_rfl) ⟨⟨_,F.out⟩,rfl⟩ ?_
 refine wTh ?_
 simp only[oS]
 refine wqLr rfl 211 _ rfl w.heap.size rfl _ (Iv .u64 u) _ _ (fun w' hw'=>by obtain⟨x,rfl⟩:=hw';exact x.p.at (mC _ (mC _ (mC _ (mC _ (mC _ (mC _ (mC _ (mC _ (mC _ (mC _ (mC _ (mC _ (mC _ (mC _ (mC _ mQ)))))))))))))))) underlying211 rfl (aZ lu.out) ?_
 simp only[pS]
 refine wqLr rfl 211 _ rfl bf rfl _ (Iv .u64 f) _ _ (fun w' hw'=>by obtain⟨x,rfl⟩:=hw';exact x.p.at mQ) underlying211 rfl (aZ lf.out) ?_
 simp only[pS]
 refine wqLr rfl 211 _ rfl bf rfl _ (Iv .u64 f) _ _ (fun w' hw'=>by obtain⟨x,rfl⟩:=hw';exact x.p.at mQ) underlying211 rfl (aZ lf.out) ?_
 simp only[pS]
 refine wqN ?_
 refine wTt ?_
 simp only[oS]
 go_wp2_with fail
 refine(Cff.out _).mono ?_
 rintro e9 v26 ⟨rfl,hb⟩
 have F1:Hid _:=F.out.later hb (nQ _)
 clear hb F
 have F:Hid _:=F1.out
 clear F1
 go_wp2_with fail
 refine⟨⟨⟨_,F.out⟩,rfl⟩,?_⟩
 refine wTt ?_
 simp only[oS]
 go_wp2_with fail
 refine(Cz2.out _).mono ?_
 rintro e9 v27 ⟨rfl,hb⟩
 have F1:Hid _:=F.out.later hb (nQ _)
 clear hb F
 have F:Hid _:=F1.out
 clear F1
 go_wp2_with fail
 refine⟨⟨⟨_,F.out⟩,rfl⟩,?_⟩
 refine wTh ?_
 simp only[oS]
 refine aD rfl (.pointer (some ⟨(w.heap.size+1+1),5,none⟩)) (fun w'=>by kernel_rfl) ?_
 simp only[pS]
 refine wqN ?_
 refine wTl ?_
 simp only[oS]
 have KA:Hid _:=F.out.at (mC _ (mC _ (mC _ (mC _ (mC _ (mC _ (mC _ (mC _ (mC _ (mC _ (mC _ (mC _ (mC _ mQ)))))))))))))
 have hlq:Hid (z2.length=qz.length):=by show _=_;rw[lz2.out,lqz.out]
 go_wp2_with(refine uS rfl 211 _ _ rfl (w.heap.size+1+1) 5 .u64 z2 x2 qz rfl rfl _ KA.out (jI lz2.out) lx2.out hlq.out (fun v28 hP=>sH ?_))
 refine aG ?_
 have F1:Hid _:=F.out.put13 hP
 clear hP KA F hlq
 have F:Hid _:=F1.out
 clear F1
 refine bN ?_
 have lr1:Hid ((x1++z1).length=10):=by show _=_;rw[lQ,lx1.out,lz1.out]
 have lr2:Hid ((x2++z2).length=10):=by show _=_;rw[lQ,lx2.out,lz2.out]
 go_wp2_with fail
 have F1:Hid _:=F.out.drew
 clear F
 have F:Hid _:=F1.out
 clear F1
 refine wRt 3 (fun w'=>∃x:Wp (fun v=>Rn w [rE bf f,rE bs s,rE bcb cb,rE bda da,rE bg g,rE bbb bb,rE baa aa,rE bd d,rE bc c,rE bb_ b,rE ba a,rR (w.heap.size+1+1) (x2++z2),rR (w.heap.size+1) (x1++z1),rE w.heap.size u] v),w'=x.w) (.held [0,1] (.tail 2 (.last 3 .done))) kJ (by kernel_rfl) ⟨⟨_,F.out.sub (by repeat(first|exact List.Sublist.slnil|apply List.Sublist.cons_cons|apply List.Sublist.cons))⟩,rfl⟩ ?_
 refine wTh ?_
 simp only[oS]
 refine wqLr rfl 213 _ rfl (w.heap.size+1) rfl _ (Iv .u64 (x1++z1)) _ _ (fun w' hw'=>by obtain⟨x,rfl⟩:=hw';exact x.p.at (mC _ (mC _ (mC _ (mC _ (mC _ (mC _ (mC _ (mC _ (mC _ (mC _ (mC _ (mC _ mQ))))))))))))) underlying213 rfl (dB lr1.out) ?_
 simp only[pS]
 refine wqLr rfl 213 _ rfl (w.heap.size+1+1) rfl _ (Iv .u64 (x2++z2)) _ _ (fun w' hw'=>by obtain⟨x,rfl⟩:=hw';exact x.p.at (mC _ (mC _ (mC _ (mC _ (mC _ (mC _ (mC _ (mC _ (mC _ (mC _ (mC _ mQ)))))))))))) underlying213 rfl (dB lr2.out) ?_
 simp only[pS]
 refine wqN ?_
 refine wTt ?_
 simp only[oS]
 have KA:Hid _:=F.out.at (mC _ (mC _ (mC _ (mC _ (mC _ (mC _ (mC _ (mC _ (mC _ (mC _ (mC _ (mC _ mQ))))))))))))
 go_wp2_with(refine wpPr rfl 213 _ _ rfl (w.heap.size+1+1+1) (Iv .u64 (x1++z1)) rfl rfl _ _ KA.out (dB lr1.out) (zM lr1.out) (aH _ _) (fun v29 hP=>sH ?_))
 refine aG ?_
 have F1:Hid _:=F.out.put12 hP
 clear hP KA F
 have F:Hid _:=F1.out
 clear F1
 go_wp2_with fail
 refine⟨⟨⟨_,F.out.sub (by repeat(first|exact List.Sublist.slnil|apply List.Sublist.cons_cons|apply List.Sublist.cons))⟩,rfl⟩,?_⟩
 refine wTl ?_
 simp only[oS]
 have KA:Hid _:=F.out.at (mC _ (mC _ (mC _ (mC _ (mC _ (mC _ (mC _ (mC _ (mC _ (mC _ (mC _ mQ)))))))))))
 go_wp2_with(refine wpPr rfl 213 _ _ rfl (w.heap.size+1+1+1+1) (Iv .u64 (x2++z2)) rfl rfl _ _ KA.out (dB lr2.out) (zM lr2.out) (aH _ _) (fun v30 hP=>sH ?_))
 refine aG ?_
 have F1:Hid _:=F.out.put11 hP
 clear hP KA F
 have F:Hid _:=F1.out
 clear F1
 refine bN ?_
 have M1:=F.out.at (mC _ (mC _ (mC _ (mC _ (mC _ (mC _ (mC _ (mC _ (mC _ (mC _ (mC _ (mC _ mQ))))))))))))
 have M2:=F.out.at (mC _ (mC _ (mC _ (mC _ (mC _ (mC _ (mC _ (mC _ (mC _ (mC _ (mC _ mQ)))))))))))
 have B9:=F.out.bel
 clear F
 obtain⟨r1,er1⟩:∃r,x1++z1=r:=⟨_,rfl⟩
 obtain⟨r2,er2⟩:∃r,x2++z2=r:=⟨_,rfl⟩
 rw[er1]at M1 lr1
 rw[er2]at M2 lr2
 have E1:Hid _:=er1
 have E2:Hid _:=er2
 clear er1 er2
 go_wp2
 exact bodyPost_ret (v:=.tuple #[.agg (Iv .u64 r1),.agg (Iv .u64 r2)]) (iN rfl _ _ _ _ _ _ (Iv .u64 r1) (Iv .u64 r2) _ _ rfl rfl M1 M2 underlying213 rfl (dB lr1.out) underlying213 rfl (dB lr2.out)) rfl ⟨by rw[E1.out,E2.out],B9⟩
end Go.Proofs.YtgcepckaolkeoaaGreatDoor
