import Derived.Test.YtmjccemdldidaaaGreatDoorMH07
import Derived.Test.YtmjccemdldidaaaGreatDoorMH01
namespace Go.Proofs.YtmjccemdldidaaaGreatDoor
open Go.RowKit
open Go.Proofs.Tryz
open Go renaming heap_alloc_new → hAN, wpList_load_row → wpLr, wpQuiet_nil → wqN
open Go.World renaming size_alloc → wU
open List renaming length_append → lQ, length_map → lU, length_set → lJ, mem_cons_of_mem → mC, mem_cons_self → mQ, nil_append → nA, setIfInBounds_toArray → sU, set_cons_succ → sJ, set_cons_zero → sY, take_zero → tJ
open Nat renaming le_refl → nQ
set_option linter.unusedVariables false
set_option linter.unusedSimpArgs false
set_option maxHeartbeats 16000000
set_option maxRecDepth 100000
theorem ac1 (l u:LI) (hu:Dg u) (m:Nat):Dg (cW l u m).x1∧Dg (cW l u m).z1∧Dg (cW l u m).x2∧Dg (cW l u m).z2:=by
 obtain⟨h1,h2,h3,h4⟩:=JE l u (dN u) ⟨hu,0,by omega⟩ m
 exact⟨h1.1,h2.1,h3.1,h4.1⟩
theorem QC (l u:LI) (m:Nat):zF (cW l u (m+1))=if nV l (254 - m)=1 then uC (cW l u m).x1 (cW l u m).z1 (cW l u m).x2 (cW l u m).z2++uD (cW l u m).x1 (cW l u m).z1 (cW l u m).x2 (cW l u m).z2 u else sB (cW l u m).x1 (cW l u m).z1++sC (cW l u m).x1 (cW l u m).z1:=by
 rw[cW]
 by_cases h:nV l (254 - m)=1
 ·simp only[h,if_true,zF]
 ·simp only[h,if_false,zF]
theorem OZ (l u:LI) (m:Nat):vB (cW l u (m+1))=if nV l (254 - m)=1 then sB (cW l u m).x2 (cW l u m).z2++sC (cW l u m).x2 (cW l u m).z2 else uC (cW l u m).x1 (cW l u m).z1 (cW l u m).x2 (cW l u m).z2++uD (cW l u m).x1 (cW l u m).z1 (cW l u m).x2 (cW l u m).z2 u:=by
 rw[cW]
 by_cases h:nV l (254 - m)=1
 ·simp only[h,if_true,vB]
 ·simp only[h,if_false,vB]
theorem RI (l u:LI) (hl:l.length=32) (hb:aC l) (hu:Dg u):∀(m n:Nat),n+m=255→∀w:World,
 Calls prog 33 #[.agg (Iv .u8 l),.int .i64 n,.agg (Iv .i64 u)] w fun e w'=>e=.returned (.tuple #[.agg (Iv .i64 (zF (cW l u m))),.agg (Iv .i64 (vB (cW l u m)))])∧Below w.heap.size w w'
 | 0,n,hn,w=>by
   obtain rfl:n=255:=by omega
   exact aaW l u hl hu w
 | m+1,n,hn,w=>by
   obtain⟨h1,h2,h3,h4⟩:=ac1 l u hu m
   have hm:254 - m=n:=by omega
   have h:=aaV l u (cW l u m).x1 (cW l u m).z1 (cW l u m).x2 (cW l u m).z2 hl hb hu h1 h2 h3 h4 n (by omega) (fun W=>RI l u hl hb hu m (n+1) (by omega) W) w
   rw[QC,OZ,hm]
   exact h
abbrev rE (b:Nat) (l:LI):Nat×Array Value×TypeId:=(b,Iv .u64 l,187)
abbrev rZ (b:Nat):Nat×Array Value×TypeId:=(b,Iv .u64 [0,0,0,0,0],187)
abbrev rR (b:Nat) (l:LI):Nat×Array Value×TypeId:=(b,Iv .u64 l,189)
theorem ahA:(prog.info? 189).map (·.size)=some 10:=by kernel_rfl
theorem dA {l:LI} (h:l.length=10):(prog.info? 189).map (·.size)=some (Iv .u64 l).size:=by rw[aD,h];exact ahA
theorem WE:∀W,(zeroValue 189).run prog W=.ok (.agg (Iv .u64 (aA 10))) W:=(zero_of_info (n:=10) (by kernel_rfl)).1
theorem DW {l:LI} (h:l.length=10):(Iv .u64 (aA 10)).size=(Iv .u64 l).size:=by rw[aD,aD,h];rfl
theorem rS {l:LI} (h:l.length=5):(Iv .u64 [0,0,0,0,0]).size=(Iv .u64 l).size:=by rw[aD,aD,h];rfl
theorem xJ {P:Program} {ops:Array Oper} {rest:List Oper} {op:Oper} {a:Act} {w:World} {Q:Exit→Act→World→Prop} (hgd:op.guard=none) (ty:TypeId) (x y:Operand) (ho:op.op=.store ty x y)
 (g:Nat) (k:IntKind) (v p q:LI) (hx:a.eval x=.pointer (some ⟨g,0,none⟩)) (hy:a.eval y=.agg (Iv k v)) (t:TypeId) (hg:w.heap[g]? =some (.cells (Iv k (p++q)) t))
 (hi:(P.info? ty).map (·.size)=some (v.map (Value.int k)).length) (hl:v.length=p.length) (h:∀W,nE w g (Iv k (v++q)) t W→wpList P ops Q rest (a.put op.dst undef) W):wpList P ops Q (op::rest) a w:=
 wpPp hgd ty x y ho g 0 (v.map (Value.int k)) hx hy ((p++q).map (Value.int k)) t hg ((v++q).map (Value.int k)) hi (by simp;omega) (List.all_eq_true.2 fun z hz=>by obtain⟨i,_,rfl⟩:=List.mem_map.1 hz;rfl)
  (by rw[tJ,nA,Nat.zero_add,lU,←List.map_drop,hl,List.drop_left,←List.map_append]) h
theorem xM {P:Program} {ops:Array Oper} {rest:List Oper} {op:Oper} {a:Act} {w:World} {Q:Exit→Act→World→Prop} (hgd:op.guard=none) (ty:TypeId) (x y:Operand) (ho:op.op=.store ty x y)
 (g n:Nat) (k:IntKind) (v p q:LI) (hx:a.eval x=.pointer (some ⟨g,n,none⟩)) (hy:a.eval y=.agg (Iv k v)) (t:TypeId) (hg:w.heap[g]? =some (.cells (Iv k (p++q)) t))
 (hi:(P.info? ty).map (·.size)=some (v.map (Value.int k)).length) (hn:p.length=n) (hl:v.length=q.length) (h:∀W,nE w g (Iv k (p++v)) t W→wpList P ops Q rest (a.put op.dst undef) W):wpList P ops Q (op::rest) a w:=
 wpPp hgd ty x y ho g n (v.map (Value.int k)) hx hy ((p++q).map (Value.int k)) t hg ((p++v).map (Value.int k)) hi (by simp;omega) (List.all_eq_true.2 fun z hz=>by obtain⟨i,_,rfl⟩:=List.mem_map.1 hz;rfl)
  (by rw[lU,←List.map_take,←List.map_drop,←hn,List.take_left,hl,←lQ,List.drop_length,List.map_nil,List.append_nil,←List.map_append]) h
theorem jO {l:LI} (h:l.length=5):(prog.info? 187).map (·.size)=some (l.map (Value.int .u64)).length:=by rw[lU,h];exact lT
section
variable {P:Program} {ops:Array Oper} {Q:Exit→Act→World→Prop} {S1:World→Prop} {T0 r:Tr} {a:Act} {w w0 V:World} {R:List (Nat×Array Value×TypeId)} {k:Nat} {o:Oper}
theorem sR0 (FD:Hid (Rn w0 R V)) (T:Tr) (F:Act) (hm:Hid (∀w',Rn w0 R w'→bR P ops Q S1 T F w')→bR P ops Q S1 T0 a w) (hc:∀w',Rn w0 R w'→bR P ops Q S1 T F w'):bR P ops Q S1 T0 a w:=hm hc
theorem zY (FD:Hid (Rn w0 R V)) (T:Tr) (F:Nat→Act) (hm:Hid (∀c w',Rn w0 (rZ c::R) w'→bR P ops Q S1 T (F c) w')→bR P ops Q S1 T0 a w) (hc:∀c w',Rn w0 (rZ c::R) w'→bR P ops Q S1 T (F c) w'):bR P ops Q S1 T0 a w:=hm hc
theorem VQ (FD:Hid (Rn w0 R V)) (T:Tr) (F:Nat→Nat→Act) (hm:Hid (∀c d w',Rn w0 (rZ d::rZ c::R) w'→bR P ops Q S1 T (F c d) w')→bR P ops Q S1 T0 a w) (hc:∀c d w',Rn w0 (rZ d::rZ c::R) w'→bR P ops Q S1 T (F c d) w'):bR P ops Q S1 T0 a w:=hm hc
theorem uH {f:FuncId} {args:Array Value} {x:Value} (C:Hid (∀W,Calls prog f args W fun e w'=>e=.returned x∧Below W.heap.size W w')) (H:Hid (Rn w0 R w)) (ho:bP ops [k]=[o]) (hg:o.guard=none) (he:(execOp a.eval o).run prog w=.ok (.enter f args) w) (hS:∀v,Rn w0 R v→S1 v) (hn:∀v,Rn w0 R v→bR prog ops Q S1 r (a.put o.dst x) v):wpList prog ops (dX (fun a' w'=>S1 w'∧bR prog ops Q S1 r a' w') Q) (bP ops [k]) a w:=by
 rw[ho]
 refine wpList_plain hg fun K hK=>?_
 unfold Oper.wp
 rw[he,Oper.upon_enter]
 refine(C.out w).mono fun e w2 hh=>?_
 obtain⟨rfl,hb⟩:=hh
 have h1:=H.out.later hb (nQ _)
 exact hK _ _ ⟨hS _ h1,hn _ h1⟩
theorem nC (H:Hid (Rn w0 R w)) (ho:bP ops [k]=[o]) (hop:o.op=.alloc 187) (hg:o.guard=none) (hS:∀v,Rn w0 R v→S1 v) (hn:∀c v,Rn w0 (rZ c::R) v→bR prog ops Q S1 r (a.put o.dst (.pointer (some ⟨c,0,none⟩))) v):wpList prog ops (dX (fun a' w'=>S1 w'∧bR prog ops Q S1 r a' w') Q) (bP ops [k]) a w:=by
 rw[ho]
 refine wpList_plain hg fun K hK=>?_
 have e1:(execOp a.eval o).run prog w=.ok (.value (.pointer (some ⟨w.heap.size,0,none⟩))) (w.alloc (.cells (Iv .u64 [0,0,0,0,0]) 187)):=by
  unfold execOp
  simp[hop,go_sem]
  rfl
 unfold Oper.wp
 rw[e1]
 have h1:=H.out.alloc (Iv .u64 [0,0,0,0,0]) 187
 exact hK _ _ ⟨hS _ h1.tail,hn _ _ h1⟩
end
theorem XU (x y:LI) (hx:Hid (kL x)) (hy:Hid (kL y)):∃z,yU x y=z∧Hid (kL z)∧Hid (z.length=5)∧Hid (∀W,Calls prog 123 #[.agg (Iv .u64 x),.agg (Iv .u64 y)] W fun e w'=>e=.returned (.agg (Iv .u64 z))∧Below W.heap.size W w'):=⟨_,rfl,RM hx.out hy.out,(RM hx.out hy.out).length,ac4 x y hx.out hy.out⟩
theorem OL (x y:LI) (hx:Hid (kL x)) (hy:Hid (kL y)):∃z,sX x y=z∧Hid (kL z)∧Hid (z.length=5)∧Hid (∀W,Calls prog 124 #[.agg (Iv .u64 x),.agg (Iv .u64 y)] W fun e w'=>e=.returned (.agg (Iv .u64 z))∧Below W.heap.size W w'):=⟨_,rfl,MF hx.out hy.out,(MF hx.out hy.out).length,aaH x y hx.out hy.out⟩
theorem tB (x y:LI) (hx:Hid (kL x)) (hy:Hid (kL y)):∃z,eM x y=z∧Hid (kL z)∧Hid (z.length=5)∧Hid (∀W,Calls prog 99 #[.agg (Iv .u64 x),.agg (Iv .u64 y)] W fun e w'=>e=.returned (.agg (Iv .u64 z))∧Below W.heap.size W w'):=⟨_,rfl,M6 hx.out hy.out,(M6 hx.out hy.out).length,yA x y hx.out hy.out⟩
abbrev tq0:Tr:=(.tail 12 (.last 13 .done))
abbrev tq1:Tr:=(.tail 11 tq0)
abbrev tq2:Tr:=(.tail 10 tq0)
abbrev tq3:Tr:=(.fork 10 tq1 11 tq2)
abbrev tq4:Tr:=(.tail 9 tq0)
abbrev tq5:Tr:=(.fork 9 tq1 11 tq4)
abbrev tq6:Tr:=(.fork 9 tq2 10 tq4)
abbrev tq7:Tr:=(.fork3 9 tq3 10 tq5 11 tq6)
abbrev tq8:Tr:=(.tail 4 tq4)
abbrev tq9:Tr:=(.fork 4 tq5 11 tq8)
abbrev aiJ:Tr:=(.fork 4 tq6 10 tq8)
abbrev aj9:Tr:=(.fork3 4 tq7 10 tq9 11 aiJ)
abbrev abB:Tr:=(.tail 8 (.last 9 .done))
abbrev adM:Tr:=(.tail 7 abB)
abbrev adN:Tr:=(.tail 6 abB)
abbrev afQ:Tr:=(.fork 6 adM 7 adN)
abbrev abC:Tr:=(.tail 5 abB)
abbrev adO:Tr:=(.fork 5 adM 7 abC)
abbrev adP:Tr:=(.fork 5 adN 6 abC)
abbrev afR:Tr:=(.fork3 5 afQ 6 adO 7 adP)
abbrev adQ:Tr:=(.tail 2 abC)
abbrev afS:Tr:=(.fork 2 adO 7 adQ)
abbrev afT:Tr:=(.fork 2 adP 6 adQ)
abbrev aiK:Tr:=(.fork3 2 afR 6 afS 7 afT)
theorem vX (u px pz qx qz:LI) (Hu:kL u) (Hpx:kL px) (Hpz:kL pz) (Hqx:kL qx) (Hqz:kL qz) (w:World):
 Calls prog 111 #[.agg (Iv .u64 u),.agg (Iv .u64 (px++pz)),.agg (Iv .u64 (qx++qz))] w fun e w'=>e=.returned (.tuple #[.agg (Iv .u64 ((pI u ⟨px,pz,qx,qz⟩).x1++(pI u ⟨px,pz,qx,qz⟩).z1)),.agg (Iv .u64 ((pI u ⟨px,pz,qx,qz⟩).x2++(pI u ⟨px,pz,qx,qz⟩).z2))])∧Below w.heap.size w w':=by
 have hzv:=adX
 have hzr:=WE
 have hbu:=TY 121665
 obtain⟨k1,ek1⟩:∃x:LI,[121665,0,0,0,0]=x:=⟨_,rfl⟩
 have hk1:Hid (kL k1):=by show kL k1;rw[←ek1];exact(jF 121665 (by decide)).1
 have hpx:Hid (kL px):=Hpx
 have lpx:Hid (px.length=5):=hpx.out.length
 have hpz:Hid (kL pz):=Hpz
 have lpz:Hid (pz.length=5):=hpz.out.length
 have hqx:Hid (kL qx):=Hqx
 have lqx:Hid (qx.length=5):=hqx.out.length
 have hqz:Hid (kL qz):=Hqz
 have lqz:Hid (qz.length=5):=hqz.out.length
 have hu:Hid (kL u):=Hu
 have lu:Hid (u.length=5):=hu.out.length
 have lk1:Hid (k1.length=5):=hk1.out.length
 obtain⟨a,ea,ha,la,Ca⟩:=XU px pz hpx hpz
 obtain⟨b,eb,hb,lb,Cb⟩:=OL px pz hpx hpz
 obtain⟨c,ec,hc,lc,Cc⟩:=XU qx qz hqx hqz
 obtain⟨d,ed,hd,ld,Cd⟩:=OL qx qz hqx hqz
 obtain⟨aa,eaa,haa,laa,Caa⟩:=tB a a ha ha
 obtain⟨bb,ebb,hbb,lbb,Cbb⟩:=tB b b hb hb
 obtain⟨g,eg,hg,lg,Cg⟩:=OL aa bb haa hbb
 obtain⟨da,eda,hda,lda,Cda⟩:=tB d a hd ha
 obtain⟨cb,ecb,hcb,lcb,Ccb⟩:=tB c b hc hb
 obtain⟨s,es,hs,ls,Cs⟩:=XU da cb hda hcb
 obtain⟨f,ef,hf,lf,Cf⟩:=OL da cb hda hcb
 obtain⟨x1,ex1,hx1,lx1,Cx1⟩:=tB aa bb haa hbb
 obtain⟨t1,et1,ht1,lt1,Ct1⟩:=tB g k1 hg hk1
 obtain⟨t2,et2,ht2,lt2,Ct2⟩:=XU aa t1 haa ht1
 obtain⟨z1,ez1,hz1,lz1,Cz1⟩:=tB g t2 hg ht2
 obtain⟨x2,ex2,hx2,lx2,Cx2⟩:=tB s s hs hs
 obtain⟨ff,eff,hff,lff,Cff⟩:=tB f f hf hf
 obtain⟨z2,ez2,hz2,lz2,Cz2⟩:=tB u ff hu hff
 have HR1:Hid ((pI u ⟨px,pz,qx,qz⟩).x1++(pI u ⟨px,pz,qx,qz⟩).z1=x1++z1):=by show _=_;rw[←ex1,←ez1,←et2,←et1,←eg,←eaa,←ebb,←ea,←eb,←ek1];rfl
 have HR2:Hid ((pI u ⟨px,pz,qx,qz⟩).x2++(pI u ⟨px,pz,qx,qz⟩).z2=x2++z2):=by show _=_;rw[←ex2,←ez2,←eff,←es,←ef,←eda,←ecb,←ea,←eb,←ec,←ed];rfl
 rw[HR1.out,HR2.out]
 rw[ek1]at hbu
 have HBU:Hid _:=hbu
 clear hbu
 clear ek1 Hpx Hpz Hqx Hqz Hu ea eb ec ed eaa ebb eg eda ecb es ef ex1 et1 et2 ez1 ex2 eff ez2
 have F0:Rn w [rR (w.heap.size+1+1+1+1) (aA 10),rR (w.heap.size+1+1+1) (aA 10),rR (w.heap.size+1+1) (qx++qz),rR (w.heap.size+1) (px++pz),rE w.heap.size u] (((((w.alloc (.cells (Iv .u64 u) 187)).alloc (.cells (Iv .u64 (px++pz)) 189)).alloc (.cells (Iv .u64 (qx++qz)) 189)).alloc (.cells (Iv .u64 (aA 10)) 189)).alloc (.cells (Iv .u64 (aA 10)) 189)):=((((((Rn.start w).alloc' w.heap.size (by first|rfl|simp only[wU]) _ _).alloc' (w.heap.size+1) (by first|rfl|simp only[wU]) _ _).alloc' (w.heap.size+1+1) (by first|rfl|simp only[wU]) _ _).alloc' (w.heap.size+1+1+1) (by first|rfl|simp only[wU]) _ _).alloc' (w.heap.size+1+1+1+1) (by first|rfl|simp only[wU]) _ _)
 obtain⟨W,hW⟩:∃W,(((((w.alloc (.cells (Iv .u64 u) 187)).alloc (.cells (Iv .u64 (px++pz)) 189)).alloc (.cells (Iv .u64 (qx++qz)) 189)).alloc (.cells (Iv .u64 (aA 10)) 189)).alloc (.cells (Iv .u64 (aA 10)) 189))=W:=⟨_,rfl⟩
 rw[hW]at F0
 have F:Hid (Rn w [rR (w.heap.size+1+1+1+1) (aA 10),rR (w.heap.size+1+1+1) (aA 10),rR (w.heap.size+1+1) (qx++qz),rR (w.heap.size+1) (px++pz),rE w.heap.size u] W):=F0
 have HW:Hid _:=hW
 clear hW F0
 go_enter func111,ntmps111
 go_wp2_with fail
 rw[HW.out]
 clear HW
 have FD:Hid _:=F.out.drew
 clear F
 refine wRt 13 _ (.held [0,1,2,3,5,6,7,8] aj9) jE (by kernel_rfl) FD.out ?_
 obtain⟨V,eV⟩:∃V,V=W.drew:=⟨_,rfl⟩
 rw[←eV]at FD⊢
 clear eV
 refine wTh ?_
 simp only[oS]
 refine aB rfl (.pointer (some ⟨(w.heap.size+1),0,none⟩)) (fun w'=>by kernel_rfl) ?_
 simp only[Act.put,sU,sJ,sY]
 refine wqLm rfl 187 _ rfl (w.heap.size+1) 0 rfl (px.map (Value.int .u64)) _ (fun w' hw'=>gY (hw'.at (mC _ (mC _ (mC _ mQ))))) underlying187 rfl (jO lpx.out) ?_
 simp only[Act.put,sU,sJ,sY]
 refine aB rfl (.pointer (some ⟨(w.heap.size+1),5,none⟩)) (fun w'=>by kernel_rfl) ?_
 simp only[Act.put,sU,sJ,sY]
 refine wqLm rfl 187 _ rfl (w.heap.size+1) 5 rfl (pz.map (Value.int .u64)) _ (fun w' hw'=>hJ 5 lpx.out (hw'.at (mC _ (mC _ (mC _ mQ))))) underlying187 rfl (jO lpz.out) ?_
 simp only[Act.put,sU,sJ,sY]
 refine aB rfl (.pointer (some ⟨(w.heap.size+1),0,none⟩)) (fun w'=>by kernel_rfl) ?_
 simp only[Act.put,sU,sJ,sY]
 refine wqLm rfl 187 _ rfl (w.heap.size+1) 0 rfl (px.map (Value.int .u64)) _ (fun w' hw'=>gY (hw'.at (mC _ (mC _ (mC _ mQ))))) underlying187 rfl (jO lpx.out) ?_
 simp only[Act.put,sU,sJ,sY]
 refine aB rfl (.pointer (some ⟨(w.heap.size+1),5,none⟩)) (fun w'=>by kernel_rfl) ?_
 simp only[Act.put,sU,sJ,sY]
 refine wqLm rfl 187 _ rfl (w.heap.size+1) 5 rfl (pz.map (Value.int .u64)) _ (fun w' hw'=>hJ 5 lpx.out (hw'.at (mC _ (mC _ (mC _ mQ))))) underlying187 rfl (jO lpz.out) ?_
 simp only[Act.put,sU,sJ,sY]
 refine wqN ?_
 apply VQ FD tq0
 intro h211
 apply VQ FD tq4
 intro h111
 apply zY FD tq2
 intro h201
 apply zY FD tq1
 intro h210
 apply VQ FD tq8
 intro h011
 apply zY FD tq6
 intro h101
 apply zY FD tq5
 intro h110
 apply sR0 FD tq3
 intro h200
 apply zY FD aiJ
 intro h001
 apply zY FD tq9
 intro h010
 apply sR0 FD tq7
 intro h100
 have H:Hid _:=FD.out
 ·refine wTf3 ?_ ?_ ?_
  ·refine uH Ca H rfl rfl (by kernel_rfl) (fun _ q=>q) fun v q=>?_
   simp only[Act.put,sU,sJ,sY]
   exact h100.out  _ q
  ·refine nC H rfl rfl rfl (fun _ q=>q) fun c0 v q=>?_
   simp only[Act.put,sU,sJ,sY]
   exact h010.out c0 _ q
  ·refine nC H rfl rfl rfl (fun _ q=>q) fun c1 v q=>?_
   simp only[Act.put,sU,sJ,sY]
   exact h001.out c1 _ q
 ·intro  v H0
  have H:Hid _:=H0
  clear H0
  refine wTf3 ?_ ?_ ?_
  ·refine uH Cb H rfl rfl (by kernel_rfl) (fun _ q=>q) fun v q=>?_
   simp only[Act.put,sU,sJ,sY]
   exact h200.out  _ q
  ·refine nC H rfl rfl rfl (fun _ q=>q) fun c0 v q=>?_
   simp only[Act.put,sU,sJ,sY]
   exact h110.out c0 _ q
  ·refine nC H rfl rfl rfl (fun _ q=>q) fun c1 v q=>?_
   simp only[Act.put,sU,sJ,sY]
   exact h101.out c1 _ q
 ·intro c0 v H0
  have H:Hid _:=H0
  clear H0
  refine wTf ?_ ?_
  ·refine uH Ca H rfl rfl (by kernel_rfl) (fun _ q=>q.tail) fun v q=>?_
   simp only[Act.put,sU,sJ,sY]
   exact h110.out c0 _ q
  ·refine nC H rfl rfl rfl (fun _ q=>q.tail) fun c1 v q=>?_
   simp only[Act.put,sU,sJ,sY]
   exact h011.out c0 c1 _ q
 ·intro c1 v H0
  have H:Hid _:=H0
  clear H0
  refine wTf ?_ ?_
  ·refine uH Ca H rfl rfl (by kernel_rfl) (fun _ q=>q.tail) fun v q=>?_
   simp only[Act.put,sU,sJ,sY]
   exact h101.out c1 _ q
  ·refine nC H rfl rfl rfl (fun _ q=>q.tail) fun c0 v q=>?_
   simp only[Act.put,sU,sJ,sY]
   exact h011.out c0 c1 _ q.two
 ·intro  v H0
  have H:Hid _:=H0
  clear H0
  refine wTf ?_ ?_
  ·refine nC H rfl rfl rfl (fun _ q=>q) fun c0 v q=>?_
   simp only[Act.put,sU,sJ,sY]
   exact h210.out c0 _ q
  ·refine nC H rfl rfl rfl (fun _ q=>q) fun c1 v q=>?_
   simp only[Act.put,sU,sJ,sY]
   exact h201.out c1 _ q
 ·intro c0 v H0
  have H:Hid _:=H0
  clear H0
  refine wTf ?_ ?_
  ·refine uH Cb H rfl rfl (by kernel_rfl) (fun _ q=>q.tail) fun v q=>?_
   simp only[Act.put,sU,sJ,sY]
   exact h210.out c0 _ q
  ·refine nC H rfl rfl rfl (fun _ q=>q.tail) fun c1 v q=>?_
   simp only[Act.put,sU,sJ,sY]
   exact h111.out c0 c1 _ q
 ·intro c1 v H0
  have H:Hid _:=H0
  clear H0
  refine wTf ?_ ?_
  ·refine uH Cb H rfl rfl (by kernel_rfl) (fun _ q=>q.tail) fun v q=>?_
   simp only[Act.put,sU,sJ,sY]
   exact h201.out c1 _ q
  ·refine nC H rfl rfl rfl (fun _ q=>q.tail) fun c0 v q=>?_
   simp only[Act.put,sU,sJ,sY]
   exact h111.out c0 c1 _ q.two
 ·intro c0 c1 v H0
  have H:Hid _:=H0
  clear H0
  refine wTt ?_
  refine uH Ca H rfl rfl (by kernel_rfl) (fun _ q=>q.tail.tail) fun v q=>?_
  simp only[Act.put,sU,sJ,sY]
  exact h111.out c0 c1 _ q
 ·intro c0 v H0
  have H:Hid _:=H0
  clear H0
  refine wTt ?_
  refine nC H rfl rfl rfl (fun _ q=>q.tail) fun c1 v q=>?_
  simp only[Act.put,sU,sJ,sY]
  exact h211.out c0 c1 _ q
 ·intro c1 v H0
  have H:Hid _:=H0
  clear H0
  refine wTt ?_
  refine nC H rfl rfl rfl (fun _ q=>q.tail) fun c0 v q=>?_
  simp only[Act.put,sU,sJ,sY]
  exact h211.out c0 c1 _ q.two
 ·intro c0 c1 v H0
  have H:Hid _:=H0
  clear H0
  refine wTt ?_
  refine uH Cb H rfl rfl (by kernel_rfl) (fun _ q=>q.tail.tail) fun v q=>?_
  simp only[Act.put,sU,sJ,sY]
  exact h211.out c0 c1 _ q
 intro ba bb_ v0 H0
 have H:Hid _:=H0
 clear H0
 try clear FD
 have F:Hid _:=H.out
 clear H
 refine wTt ?_
 simp only[oS]
 have KA:Hid _:=F.out.at (mC _ mQ)
 go_wp2_with(refine wpPr rfl 187 _ _ rfl ba (Iv .u64 a) rfl rfl _ _ KA.out (bE la.out) (rS la.out) (aG _ _) (fun v2 hP=>sH ?_))
 refine aH ?_
 have F1:Hid _:=F.out.put1 hP
 clear hP KA F
 have F:Hid _:=F1.out
 clear F1
 go_wp2_with fail
 refine⟨F.out.tail.tail,?_⟩
 refine wTl ?_
 simp only[oS]
 have KA:Hid _:=F.out.at mQ
 go_wp2_with(refine wpPr rfl 187 _ _ rfl bb_ (Iv .u64 b) rfl rfl _ _ KA.out (bE lb.out) (rS lb.out) (aG _ _) (fun v3 hP=>sH ?_))
 refine aH ?_
 have F1:Hid _:=F.out.put0 hP
 clear hP KA F
 have F:Hid _:=F1.out
 clear F1
 refine aQ ?_
 go_wp2_with fail
 have FD:Hid _:=F.out.drew
 clear F
 refine wRt 13 _ (.held [0,1,2,3,5,6,7,8] aj9) jE (by kernel_rfl) FD.out ?_
 obtain⟨V,eV⟩:∃V,V=v3.drew:=⟨_,rfl⟩
 rw[←eV]at FD⊢
 clear eV
 refine wTh ?_
 simp only[oS]
 refine aB rfl (.pointer (some ⟨(w.heap.size+1+1),0,none⟩)) (fun w'=>by kernel_rfl) ?_
 simp only[Act.put,sU,sJ,sY]
 refine wqLm rfl 187 _ rfl (w.heap.size+1+1) 0 rfl (qx.map (Value.int .u64)) _ (fun w' hw'=>gY (hw'.at (mC _ (mC _ (mC _ (mC _ mQ)))))) underlying187 rfl (jO lqx.out) ?_
 simp only[Act.put,sU,sJ,sY]
 refine aB rfl (.pointer (some ⟨(w.heap.size+1+1),5,none⟩)) (fun w'=>by kernel_rfl) ?_
 simp only[Act.put,sU,sJ,sY]
 refine wqLm rfl 187 _ rfl (w.heap.size+1+1) 5 rfl (qz.map (Value.int .u64)) _ (fun w' hw'=>hJ 5 lqx.out (hw'.at (mC _ (mC _ (mC _ (mC _ mQ)))))) underlying187 rfl (jO lqz.out) ?_
 simp only[Act.put,sU,sJ,sY]
 refine aB rfl (.pointer (some ⟨(w.heap.size+1+1),0,none⟩)) (fun w'=>by kernel_rfl) ?_
 simp only[Act.put,sU,sJ,sY]
 refine wqLm rfl 187 _ rfl (w.heap.size+1+1) 0 rfl (qx.map (Value.int .u64)) _ (fun w' hw'=>gY (hw'.at (mC _ (mC _ (mC _ (mC _ mQ)))))) underlying187 rfl (jO lqx.out) ?_
 simp only[Act.put,sU,sJ,sY]
 refine aB rfl (.pointer (some ⟨(w.heap.size+1+1),5,none⟩)) (fun w'=>by kernel_rfl) ?_
 simp only[Act.put,sU,sJ,sY]
 refine wqLm rfl 187 _ rfl (w.heap.size+1+1) 5 rfl (qz.map (Value.int .u64)) _ (fun w' hw'=>hJ 5 lqx.out (hw'.at (mC _ (mC _ (mC _ (mC _ mQ)))))) underlying187 rfl (jO lqz.out) ?_
 simp only[Act.put,sU,sJ,sY]
 refine wqN ?_
 apply VQ FD tq0
 intro h211
 apply VQ FD tq4
 intro h111
 apply zY FD tq2
 intro h201
 apply zY FD tq1
 intro h210
 apply VQ FD tq8
 intro h011
 apply zY FD tq6
 intro h101
 apply zY FD tq5
 intro h110
 apply sR0 FD tq3
 intro h200
 apply zY FD aiJ
 intro h001
 apply zY FD tq9
 intro h010
 apply sR0 FD tq7
 intro h100
 have H:Hid _:=FD.out
 ·refine wTf3 ?_ ?_ ?_
  ·refine uH Cc H rfl rfl (by kernel_rfl) (fun _ q=>q) fun v q=>?_
   simp only[Act.put,sU,sJ,sY]
   exact h100.out  _ q
  ·refine nC H rfl rfl rfl (fun _ q=>q) fun c0 v q=>?_
   simp only[Act.put,sU,sJ,sY]
   exact h010.out c0 _ q
  ·refine nC H rfl rfl rfl (fun _ q=>q) fun c1 v q=>?_
   simp only[Act.put,sU,sJ,sY]
   exact h001.out c1 _ q
 ·intro  v H0
  have H:Hid _:=H0
  clear H0
  refine wTf3 ?_ ?_ ?_
  ·refine uH Cd H rfl rfl (by kernel_rfl) (fun _ q=>q) fun v q=>?_
   simp only[Act.put,sU,sJ,sY]
   exact h200.out  _ q
  ·refine nC H rfl rfl rfl (fun _ q=>q) fun c0 v q=>?_
   simp only[Act.put,sU,sJ,sY]
   exact h110.out c0 _ q
  ·refine nC H rfl rfl rfl (fun _ q=>q) fun c1 v q=>?_
   simp only[Act.put,sU,sJ,sY]
   exact h101.out c1 _ q
 ·intro c0 v H0
  have H:Hid _:=H0
  clear H0
  refine wTf ?_ ?_
  ·refine uH Cc H rfl rfl (by kernel_rfl) (fun _ q=>q.tail) fun v q=>?_
   simp only[Act.put,sU,sJ,sY]
   exact h110.out c0 _ q
  ·refine nC H rfl rfl rfl (fun _ q=>q.tail) fun c1 v q=>?_
   simp only[Act.put,sU,sJ,sY]
   exact h011.out c0 c1 _ q
 ·intro c1 v H0
  have H:Hid _:=H0
  clear H0
  refine wTf ?_ ?_
  ·refine uH Cc H rfl rfl (by kernel_rfl) (fun _ q=>q.tail) fun v q=>?_
   simp only[Act.put,sU,sJ,sY]
   exact h101.out c1 _ q
  ·refine nC H rfl rfl rfl (fun _ q=>q.tail) fun c0 v q=>?_
   simp only[Act.put,sU,sJ,sY]
   exact h011.out c0 c1 _ q.two
 ·intro  v H0
  have H:Hid _:=H0
  clear H0
  refine wTf ?_ ?_
  ·refine nC H rfl rfl rfl (fun _ q=>q) fun c0 v q=>?_
   simp only[Act.put,sU,sJ,sY]
   exact h210.out c0 _ q
  ·refine nC H rfl rfl rfl (fun _ q=>q) fun c1 v q=>?_
   simp only[Act.put,sU,sJ,sY]
   exact h201.out c1 _ q
 ·intro c0 v H0
  have H:Hid _:=H0
  clear H0
  refine wTf ?_ ?_
  ·refine uH Cd H rfl rfl (by kernel_rfl) (fun _ q=>q.tail) fun v q=>?_
   simp only[Act.put,sU,sJ,sY]
   exact h210.out c0 _ q
  ·refine nC H rfl rfl rfl (fun _ q=>q.tail) fun c1 v q=>?_
   simp only[Act.put,sU,sJ,sY]
   exact h111.out c0 c1 _ q
 ·intro c1 v H0
  have H:Hid _:=H0
  clear H0
  refine wTf ?_ ?_
  ·refine uH Cd H rfl rfl (by kernel_rfl) (fun _ q=>q.tail) fun v q=>?_
   simp only[Act.put,sU,sJ,sY]
   exact h201.out c1 _ q
  ·refine nC H rfl rfl rfl (fun _ q=>q.tail) fun c0 v q=>?_
   simp only[Act.put,sU,sJ,sY]
   exact h111.out c0 c1 _ q.two
 ·intro c0 c1 v H0
  have H:Hid _:=H0
  clear H0
  refine wTt ?_
  refine uH Cc H rfl rfl (by kernel_rfl) (fun _ q=>q.tail.tail) fun v q=>?_
  simp only[Act.put,sU,sJ,sY]
  exact h111.out c0 c1 _ q
 ·intro c0 v H0
  have H:Hid _:=H0
  clear H0
  refine wTt ?_
  refine nC H rfl rfl rfl (fun _ q=>q.tail) fun c1 v q=>?_
  simp only[Act.put,sU,sJ,sY]
  exact h211.out c0 c1 _ q
 ·intro c1 v H0
  have H:Hid _:=H0
  clear H0
  refine wTt ?_
  refine nC H rfl rfl rfl (fun _ q=>q.tail) fun c0 v q=>?_
  simp only[Act.put,sU,sJ,sY]
  exact h211.out c0 c1 _ q.two
 ·intro c0 c1 v H0
  have H:Hid _:=H0
  clear H0
  refine wTt ?_
  refine uH Cd H rfl rfl (by kernel_rfl) (fun _ q=>q.tail.tail) fun v q=>?_
  simp only[Act.put,sU,sJ,sY]
  exact h211.out c0 c1 _ q
 intro bc bd v3 H0
 have H:Hid _:=H0
 clear H0
 try clear FD
 have F:Hid _:=H.out
 clear H
 refine wTt ?_
 simp only[oS]
 have KA:Hid _:=F.out.at (mC _ mQ)
 go_wp2_with(refine wpPr rfl 187 _ _ rfl bc (Iv .u64 c) rfl rfl _ _ KA.out (bE lc.out) (rS lc.out) (aG _ _) (fun v5 hP=>sH ?_))
 refine aH ?_
 have F1:Hid _:=F.out.put1 hP
 clear hP KA F
 have F:Hid _:=F1.out
 clear F1
 go_wp2_with fail
 refine⟨F.out.tail.tail,?_⟩
 refine wTl ?_
 simp only[oS]
 have KA:Hid _:=F.out.at mQ
 go_wp2_with(refine wpPr rfl 187 _ _ rfl bd (Iv .u64 d) rfl rfl _ _ KA.out (bE ld.out) (rS ld.out) (aG _ _) (fun v6 hP=>sH ?_))
 refine aH ?_
 have F1:Hid _:=F.out.put0 hP
 clear hP KA F
 have F:Hid _:=F1.out
 clear F1
 refine aQ ?_
 go_wp2_with fail
 have FD:Hid _:=F.out.drew
 clear F
 refine wRt 9 _ (.held [0,1,3,4] aiK) jE (by kernel_rfl) FD.out ?_
 obtain⟨V,eV⟩:∃V,V=v6.drew:=⟨_,rfl⟩
 rw[←eV]at FD⊢
 clear eV
 refine wTh ?_
 simp only[oS]
 refine wqLr rfl 187 _ rfl ba rfl _ (Iv .u64 a) _ _ (fun w' hw'=>hw'.at (mC _ (mC _ (mC _ mQ)))) underlying187 rfl (bE la.out) ?_
 simp only[Act.put,sU,sJ,sY]
 refine wqLr rfl 187 _ rfl ba rfl _ (Iv .u64 a) _ _ (fun w' hw'=>hw'.at (mC _ (mC _ (mC _ mQ)))) underlying187 rfl (bE la.out) ?_
 simp only[Act.put,sU,sJ,sY]
 refine wqLr rfl 187 _ rfl bb_ rfl _ (Iv .u64 b) _ _ (fun w' hw'=>hw'.at (mC _ (mC _ mQ))) underlying187 rfl (bE lb.out) ?_
 simp only[Act.put,sU,sJ,sY]
 refine wqLr rfl 187 _ rfl bb_ rfl _ (Iv .u64 b) _ _ (fun w' hw'=>hw'.at (mC _ (mC _ mQ))) underlying187 rfl (bE lb.out) ?_
 simp only[Act.put,sU,sJ,sY]
 refine wqN ?_
 apply VQ FD abB
 intro h211
 apply VQ FD abC
 intro h111
 apply zY FD adN
 intro h201
 apply zY FD adM
 intro h210
 apply VQ FD adQ
 intro h011
 apply zY FD adP
 intro h101
 apply zY FD adO
 intro h110
 apply sR0 FD afQ
 intro h200
 apply zY FD afT
 intro h001
 apply zY FD afS
 intro h010
 apply sR0 FD afR
 intro h100
 have H:Hid _:=FD.out
 ·refine wTf3 ?_ ?_ ?_
  ·refine uH Caa H rfl rfl (by kernel_rfl) (fun _ q=>q) fun v q=>?_
   simp only[Act.put,sU,sJ,sY]
   exact h100.out  _ q
  ·refine nC H rfl rfl rfl (fun _ q=>q) fun c0 v q=>?_
   simp only[Act.put,sU,sJ,sY]
   exact h010.out c0 _ q
  ·refine nC H rfl rfl rfl (fun _ q=>q) fun c1 v q=>?_
   simp only[Act.put,sU,sJ,sY]
   exact h001.out c1 _ q
 ·intro  v H0
  have H:Hid _:=H0
  clear H0
  refine wTf3 ?_ ?_ ?_
  ·refine uH Cbb H rfl rfl (by kernel_rfl) (fun _ q=>q) fun v q=>?_
   simp only[Act.put,sU,sJ,sY]
   exact h200.out  _ q
  ·refine nC H rfl rfl rfl (fun _ q=>q) fun c0 v q=>?_
   simp only[Act.put,sU,sJ,sY]
   exact h110.out c0 _ q
  ·refine nC H rfl rfl rfl (fun _ q=>q) fun c1 v q=>?_
   simp only[Act.put,sU,sJ,sY]
   exact h101.out c1 _ q
 ·intro c0 v H0
  have H:Hid _:=H0
  clear H0
  refine wTf ?_ ?_
  ·refine uH Caa H rfl rfl (by kernel_rfl) (fun _ q=>q.tail) fun v q=>?_
   simp only[Act.put,sU,sJ,sY]
   exact h110.out c0 _ q
  ·refine nC H rfl rfl rfl (fun _ q=>q.tail) fun c1 v q=>?_
   simp only[Act.put,sU,sJ,sY]
   exact h011.out c0 c1 _ q
 ·intro c1 v H0
  have H:Hid _:=H0
  clear H0
  refine wTf ?_ ?_
  ·refine uH Caa H rfl rfl (by kernel_rfl) (fun _ q=>q.tail) fun v q=>?_
   simp only[Act.put,sU,sJ,sY]
   exact h101.out c1 _ q
  ·refine nC H rfl rfl rfl (fun _ q=>q.tail) fun c0 v q=>?_
   simp only[Act.put,sU,sJ,sY]
   exact h011.out c0 c1 _ q.two
 ·intro  v H0
  have H:Hid _:=H0
  clear H0
  refine wTf ?_ ?_
  ·refine nC H rfl rfl rfl (fun _ q=>q) fun c0 v q=>?_
   simp only[Act.put,sU,sJ,sY]
   exact h210.out c0 _ q
  ·refine nC H rfl rfl rfl (fun _ q=>q) fun c1 v q=>?_
   simp only[Act.put,sU,sJ,sY]
   exact h201.out c1 _ q
 ·intro c0 v H0
  have H:Hid _:=H0
  clear H0
  refine wTf ?_ ?_
  ·refine uH Cbb H rfl rfl (by kernel_rfl) (fun _ q=>q.tail) fun v q=>?_
   simp only[Act.put,sU,sJ,sY]
   exact h210.out c0 _ q
  ·refine nC H rfl rfl rfl (fun _ q=>q.tail) fun c1 v q=>?_
   simp only[Act.put,sU,sJ,sY]
   exact h111.out c0 c1 _ q
 ·intro c1 v H0
  have H:Hid _:=H0
  clear H0
  refine wTf ?_ ?_
  ·refine uH Cbb H rfl rfl (by kernel_rfl) (fun _ q=>q.tail) fun v q=>?_
   simp only[Act.put,sU,sJ,sY]
   exact h201.out c1 _ q
  ·refine nC H rfl rfl rfl (fun _ q=>q.tail) fun c0 v q=>?_
   simp only[Act.put,sU,sJ,sY]
   exact h111.out c0 c1 _ q.two
 ·intro c0 c1 v H0
  have H:Hid _:=H0
  clear H0
  refine wTt ?_
  refine uH Caa H rfl rfl (by kernel_rfl) (fun _ q=>q.tail.tail) fun v q=>?_
  simp only[Act.put,sU,sJ,sY]
  exact h111.out c0 c1 _ q
 ·intro c0 v H0
  have H:Hid _:=H0
  clear H0
  refine wTt ?_
  refine nC H rfl rfl rfl (fun _ q=>q.tail) fun c1 v q=>?_
  simp only[Act.put,sU,sJ,sY]
  exact h211.out c0 c1 _ q
 ·intro c1 v H0
  have H:Hid _:=H0
  clear H0
  refine wTt ?_
  refine nC H rfl rfl rfl (fun _ q=>q.tail) fun c0 v q=>?_
  simp only[Act.put,sU,sJ,sY]
  exact h211.out c0 c1 _ q.two
 ·intro c0 c1 v H0
  have H:Hid _:=H0
  clear H0
  refine wTt ?_
  refine uH Cbb H rfl rfl (by kernel_rfl) (fun _ q=>q.tail.tail) fun v q=>?_
  simp only[Act.put,sU,sJ,sY]
  exact h211.out c0 c1 _ q
 intro baa bbb v6 H0
 have H:Hid _:=H0
 clear H0
 try clear FD
 have F:Hid _:=H.out
 clear H
 refine wTt ?_
 simp only[oS]
 have KA:Hid _:=F.out.at (mC _ mQ)
 go_wp2_with(refine wpPr rfl 187 _ _ rfl baa (Iv .u64 aa) rfl rfl _ _ KA.out (bE laa.out) (rS laa.out) (aG _ _) (fun v8 hP=>sH ?_))
 refine aH ?_
 have F1:Hid _:=F.out.put1 hP
 clear hP KA F
 have F:Hid _:=F1.out
 clear F1
 go_wp2_with fail
 refine⟨F.out.tail.tail,?_⟩
 refine wTl ?_
 simp only[oS]
 have KA:Hid _:=F.out.at mQ
 go_wp2_with(refine wpPr rfl 187 _ _ rfl bbb (Iv .u64 bb) rfl rfl _ _ KA.out (bE lbb.out) (rS lbb.out) (aG _ _) (fun v9 hP=>sH ?_))
 refine aH ?_
 have F1:Hid _:=F.out.put0 hP
 clear hP KA F
 have F:Hid _:=F1.out
 clear F1
 refine aQ ?_
 have G0:Hid _:=F.out.at (mC _ mQ)
 have G1:Hid _:=F.out.at mQ
 go_wp2_with(with_reducible refine aJ ?_;first
  | refine wpLr rfl 187 _ rfl baa rfl _ (Iv .u64 aa) _ _ G0.out underlying187 rfl (bE laa.out) ?_
  | refine wpLr rfl 187 _ rfl bbb rfl _ (Iv .u64 bb) _ _ G1.out underlying187 rfl (bE lbb.out) ?_)
 clear G0 G1
 refine(Cg.out _).mono ?_
 rintro e9 v10 ⟨rfl,hb⟩
 have F1:Hid _:=F.out.later hb (nQ _)
 clear hb F
 have F:Hid _:=F1.out
 clear F1
 have KA:Hid ((v10.alloc (.cells (Iv .u64 [0,0,0,0,0]) 187)).heap[v10.heap.size]? =some (.cells (Iv .u64 [0,0,0,0,0]) 187)):=hAN _ _
 go_wp2_with(refine wpPr rfl 187 _ _ rfl v10.heap.size (Iv .u64 g) rfl rfl _ _ KA.out (bE lg.out) (rS lg.out) (aG _ _) (fun v11 hP=>sH ?_))
 refine aH ?_
 have F1:=F.out.newRow hP
 obtain⟨bg,eb⟩:∃x,x=v10.heap.size:=⟨_,rfl⟩
 rw[←eb]at F1⊢
 clear eb F hP KA
 have F:Hid _:=F1
 clear F1
 go_wp2_with fail
 have FD:Hid _:=F.out.drew
 clear F
 refine wRt 9 _ (.held [0,1,3,4] aiK) jE (by kernel_rfl) FD.out ?_
 obtain⟨V,eV⟩:∃V,V=v11.drew:=⟨_,rfl⟩
 rw[←eV]at FD⊢
 clear eV
 refine wTh ?_
 simp only[oS]
 refine wqLr rfl 187 _ rfl bd rfl _ (Iv .u64 d) _ _ (fun w' hw'=>hw'.at (mC _ (mC _ (mC _ mQ)))) underlying187 rfl (bE ld.out) ?_
 simp only[Act.put,sU,sJ,sY]
 refine wqLr rfl 187 _ rfl ba rfl _ (Iv .u64 a) _ _ (fun w' hw'=>hw'.at (mC _ (mC _ (mC _ (mC _ (mC _ (mC _ mQ))))))) underlying187 rfl (bE la.out) ?_
 simp only[Act.put,sU,sJ,sY]
 refine wqLr rfl 187 _ rfl bc rfl _ (Iv .u64 c) _ _ (fun w' hw'=>hw'.at (mC _ (mC _ (mC _ (mC _ mQ))))) underlying187 rfl (bE lc.out) ?_
 simp only[Act.put,sU,sJ,sY]
 refine wqLr rfl 187 _ rfl bb_ rfl _ (Iv .u64 b) _ _ (fun w' hw'=>hw'.at (mC _ (mC _ (mC _ (mC _ (mC _ mQ)))))) underlying187 rfl (bE lb.out) ?_
 simp only[Act.put,sU,sJ,sY]
 refine wqN ?_
 apply VQ FD abB
 intro h211
 apply VQ FD abC
 intro h111
 apply zY FD adN
 intro h201
 apply zY FD adM
 intro h210
 apply VQ FD adQ
 intro h011
 apply zY FD adP
 intro h101
 apply zY FD adO
 intro h110
 apply sR0 FD afQ
 intro h200
 apply zY FD afT
 intro h001
 apply zY FD afS
 intro h010
 apply sR0 FD afR
 intro h100
 have H:Hid _:=FD.out
 ·refine wTf3 ?_ ?_ ?_
  ·refine uH Cda H rfl rfl (by kernel_rfl) (fun _ q=>q) fun v q=>?_
   simp only[Act.put,sU,sJ,sY]
   exact h100.out  _ q
  ·refine nC H rfl rfl rfl (fun _ q=>q) fun c0 v q=>?_
   simp only[Act.put,sU,sJ,sY]
   exact h010.out c0 _ q
  ·refine nC H rfl rfl rfl (fun _ q=>q) fun c1 v q=>?_
   simp only[Act.put,sU,sJ,sY]
   exact h001.out c1 _ q
 ·intro  v H0
  have H:Hid _:=H0
  clear H0
  refine wTf3 ?_ ?_ ?_
  ·refine uH Ccb H rfl rfl (by kernel_rfl) (fun _ q=>q) fun v q=>?_
   simp only[Act.put,sU,sJ,sY]
   exact h200.out  _ q
  ·refine nC H rfl rfl rfl (fun _ q=>q) fun c0 v q=>?_
   simp only[Act.put,sU,sJ,sY]
   exact h110.out c0 _ q
  ·refine nC H rfl rfl rfl (fun _ q=>q) fun c1 v q=>?_
   simp only[Act.put,sU,sJ,sY]
   exact h101.out c1 _ q
 ·intro c0 v H0
  have H:Hid _:=H0
  clear H0
  refine wTf ?_ ?_
  ·refine uH Cda H rfl rfl (by kernel_rfl) (fun _ q=>q.tail) fun v q=>?_
   simp only[Act.put,sU,sJ,sY]
   exact h110.out c0 _ q
  ·refine nC H rfl rfl rfl (fun _ q=>q.tail) fun c1 v q=>?_
   simp only[Act.put,sU,sJ,sY]
   exact h011.out c0 c1 _ q
 ·intro c1 v H0
  have H:Hid _:=H0
  clear H0
  refine wTf ?_ ?_
  ·refine uH Cda H rfl rfl (by kernel_rfl) (fun _ q=>q.tail) fun v q=>?_
   simp only[Act.put,sU,sJ,sY]
   exact h101.out c1 _ q
  ·refine nC H rfl rfl rfl (fun _ q=>q.tail) fun c0 v q=>?_
   simp only[Act.put,sU,sJ,sY]
   exact h011.out c0 c1 _ q.two
 ·intro  v H0
  have H:Hid _:=H0
  clear H0
  refine wTf ?_ ?_
  ·refine nC H rfl rfl rfl (fun _ q=>q) fun c0 v q=>?_
   simp only[Act.put,sU,sJ,sY]
   exact h210.out c0 _ q
  ·refine nC H rfl rfl rfl (fun _ q=>q) fun c1 v q=>?_
   simp only[Act.put,sU,sJ,sY]
   exact h201.out c1 _ q
 ·intro c0 v H0
  have H:Hid _:=H0
  clear H0
  refine wTf ?_ ?_
  ·refine uH Ccb H rfl rfl (by kernel_rfl) (fun _ q=>q.tail) fun v q=>?_
   simp only[Act.put,sU,sJ,sY]
   exact h210.out c0 _ q
  ·refine nC H rfl rfl rfl (fun _ q=>q.tail) fun c1 v q=>?_
   simp only[Act.put,sU,sJ,sY]
   exact h111.out c0 c1 _ q
 ·intro c1 v H0
  have H:Hid _:=H0
  clear H0
  refine wTf ?_ ?_
  ·refine uH Ccb H rfl rfl (by kernel_rfl) (fun _ q=>q.tail) fun v q=>?_
   simp only[Act.put,sU,sJ,sY]
   exact h201.out c1 _ q
  ·refine nC H rfl rfl rfl (fun _ q=>q.tail) fun c0 v q=>?_
   simp only[Act.put,sU,sJ,sY]
   exact h111.out c0 c1 _ q.two
 ·intro c0 c1 v H0
  have H:Hid _:=H0
  clear H0
  refine wTt ?_
  refine uH Cda H rfl rfl (by kernel_rfl) (fun _ q=>q.tail.tail) fun v q=>?_
  simp only[Act.put,sU,sJ,sY]
  exact h111.out c0 c1 _ q
 ·intro c0 v H0
  have H:Hid _:=H0
  clear H0
  refine wTt ?_
  refine nC H rfl rfl rfl (fun _ q=>q.tail) fun c1 v q=>?_
  simp only[Act.put,sU,sJ,sY]
  exact h211.out c0 c1 _ q
 ·intro c1 v H0
  have H:Hid _:=H0
  clear H0
  refine wTt ?_
  refine nC H rfl rfl rfl (fun _ q=>q.tail) fun c0 v q=>?_
  simp only[Act.put,sU,sJ,sY]
  exact h211.out c0 c1 _ q.two
 ·intro c0 c1 v H0
  have H:Hid _:=H0
  clear H0
  refine wTt ?_
  refine uH Ccb H rfl rfl (by kernel_rfl) (fun _ q=>q.tail.tail) fun v q=>?_
  simp only[Act.put,sU,sJ,sY]
  exact h211.out c0 c1 _ q
 intro bda bcb v11 H0
 have H:Hid _:=H0
 clear H0
 try clear FD
 have F:Hid _:=H.out
 clear H
 refine wTt ?_
 simp only[oS]
 have KA:Hid _:=F.out.at (mC _ mQ)
 go_wp2_with(refine wpPr rfl 187 _ _ rfl bda (Iv .u64 da) rfl rfl _ _ KA.out (bE lda.out) (rS lda.out) (aG _ _) (fun v13 hP=>sH ?_))
 refine aH ?_
 have F1:Hid _:=F.out.put1 hP
 clear hP KA F
 have F:Hid _:=F1.out
 clear F1
 go_wp2_with fail
 refine⟨F.out.tail.tail,?_⟩
 refine wTl ?_
 simp only[oS]
 have KA:Hid _:=F.out.at mQ
 go_wp2_with(refine wpPr rfl 187 _ _ rfl bcb (Iv .u64 cb) rfl rfl _ _ KA.out (bE lcb.out) (rS lcb.out) (aG _ _) (fun v14 hP=>sH ?_))
 refine aH ?_
 have F1:Hid _:=F.out.put0 hP
 clear hP KA F
 have F:Hid _:=F1.out
 clear F1
 refine aQ ?_
 go_wp2_with fail
 have FD:Hid _:=F.out.drew
 clear F
 refine wRt 9 _ (.held [0,1,3,4] aiK) jE (by kernel_rfl) FD.out ?_
 obtain⟨V,eV⟩:∃V,V=v14.drew:=⟨_,rfl⟩
 rw[←eV]at FD⊢
 clear eV
 refine wTh ?_
 simp only[oS]
 refine wqLr rfl 187 _ rfl bda rfl _ (Iv .u64 da) _ _ (fun w' hw'=>hw'.at (mC _ mQ)) underlying187 rfl (bE lda.out) ?_
 simp only[Act.put,sU,sJ,sY]
 refine wqLr rfl 187 _ rfl bcb rfl _ (Iv .u64 cb) _ _ (fun w' hw'=>hw'.at mQ) underlying187 rfl (bE lcb.out) ?_
 simp only[Act.put,sU,sJ,sY]
 refine wqLr rfl 187 _ rfl bda rfl _ (Iv .u64 da) _ _ (fun w' hw'=>hw'.at (mC _ mQ)) underlying187 rfl (bE lda.out) ?_
 simp only[Act.put,sU,sJ,sY]
 refine wqLr rfl 187 _ rfl bcb rfl _ (Iv .u64 cb) _ _ (fun w' hw'=>hw'.at mQ) underlying187 rfl (bE lcb.out) ?_
 simp only[Act.put,sU,sJ,sY]
 refine wqN ?_
 apply VQ FD abB
 intro h211
 apply VQ FD abC
 intro h111
 apply zY FD adN
 intro h201
 apply zY FD adM
 intro h210
 apply VQ FD adQ
 intro h011
 apply zY FD adP
 intro h101
 apply zY FD adO
 intro h110
 apply sR0 FD afQ
 intro h200
 apply zY FD afT
 intro h001
 apply zY FD afS
 intro h010
 apply sR0 FD afR
 intro h100
 have H:Hid _:=FD.out
 ·refine wTf3 ?_ ?_ ?_
  ·refine uH Cs H rfl rfl (by kernel_rfl) (fun _ q=>q) fun v q=>?_
   simp only[Act.put,sU,sJ,sY]
   exact h100.out  _ q
  ·refine nC H rfl rfl rfl (fun _ q=>q) fun c0 v q=>?_
   simp only[Act.put,sU,sJ,sY]
   exact h010.out c0 _ q
  ·refine nC H rfl rfl rfl (fun _ q=>q) fun c1 v q=>?_
   simp only[Act.put,sU,sJ,sY]
   exact h001.out c1 _ q
 ·intro  v H0
  have H:Hid _:=H0
  clear H0
  refine wTf3 ?_ ?_ ?_
  ·refine uH Cf H rfl rfl (by kernel_rfl) (fun _ q=>q) fun v q=>?_
   simp only[Act.put,sU,sJ,sY]
   exact h200.out  _ q
  ·refine nC H rfl rfl rfl (fun _ q=>q) fun c0 v q=>?_
   simp only[Act.put,sU,sJ,sY]
   exact h110.out c0 _ q
  ·refine nC H rfl rfl rfl (fun _ q=>q) fun c1 v q=>?_
   simp only[Act.put,sU,sJ,sY]
   exact h101.out c1 _ q
 ·intro c0 v H0
  have H:Hid _:=H0
  clear H0
  refine wTf ?_ ?_
  ·refine uH Cs H rfl rfl (by kernel_rfl) (fun _ q=>q.tail) fun v q=>?_
   simp only[Act.put,sU,sJ,sY]
   exact h110.out c0 _ q
  ·refine nC H rfl rfl rfl (fun _ q=>q.tail) fun c1 v q=>?_
   simp only[Act.put,sU,sJ,sY]
   exact h011.out c0 c1 _ q
 ·intro c1 v H0
  have H:Hid _:=H0
  clear H0
  refine wTf ?_ ?_
  ·refine uH Cs H rfl rfl (by kernel_rfl) (fun _ q=>q.tail) fun v q=>?_
   simp only[Act.put,sU,sJ,sY]
   exact h101.out c1 _ q
  ·refine nC H rfl rfl rfl (fun _ q=>q.tail) fun c0 v q=>?_
   simp only[Act.put,sU,sJ,sY]
   exact h011.out c0 c1 _ q.two
 ·intro  v H0
  have H:Hid _:=H0
  clear H0
  refine wTf ?_ ?_
  ·refine nC H rfl rfl rfl (fun _ q=>q) fun c0 v q=>?_
   simp only[Act.put,sU,sJ,sY]
   exact h210.out c0 _ q
  ·refine nC H rfl rfl rfl (fun _ q=>q) fun c1 v q=>?_
   simp only[Act.put,sU,sJ,sY]
   exact h201.out c1 _ q
 ·intro c0 v H0
  have H:Hid _:=H0
  clear H0
  refine wTf ?_ ?_
  ·refine uH Cf H rfl rfl (by kernel_rfl) (fun _ q=>q.tail) fun v q=>?_
   simp only[Act.put,sU,sJ,sY]
   exact h210.out c0 _ q
  ·refine nC H rfl rfl rfl (fun _ q=>q.tail) fun c1 v q=>?_
   simp only[Act.put,sU,sJ,sY]
   exact h111.out c0 c1 _ q
 ·intro c1 v H0
  have H:Hid _:=H0
  clear H0
  refine wTf ?_ ?_
  ·refine uH Cf H rfl rfl (by kernel_rfl) (fun _ q=>q.tail) fun v q=>?_
   simp only[Act.put,sU,sJ,sY]
   exact h201.out c1 _ q
  ·refine nC H rfl rfl rfl (fun _ q=>q.tail) fun c0 v q=>?_
   simp only[Act.put,sU,sJ,sY]
   exact h111.out c0 c1 _ q.two
 ·intro c0 c1 v H0
  have H:Hid _:=H0
  clear H0
  refine wTt ?_
  refine uH Cs H rfl rfl (by kernel_rfl) (fun _ q=>q.tail.tail) fun v q=>?_
  simp only[Act.put,sU,sJ,sY]
  exact h111.out c0 c1 _ q
 ·intro c0 v H0
  have H:Hid _:=H0
  clear H0
  refine wTt ?_
  refine nC H rfl rfl rfl (fun _ q=>q.tail) fun c1 v q=>?_
  simp only[Act.put,sU,sJ,sY]
  exact h211.out c0 c1 _ q
 ·intro c1 v H0
  have H:Hid _:=H0
  clear H0
  refine wTt ?_
  refine nC H rfl rfl rfl (fun _ q=>q.tail) fun c0 v q=>?_
  simp only[Act.put,sU,sJ,sY]
  exact h211.out c0 c1 _ q.two
 ·intro c0 c1 v H0
  have H:Hid _:=H0
  clear H0
  refine wTt ?_
  refine uH Cf H rfl rfl (by kernel_rfl) (fun _ q=>q.tail.tail) fun v q=>?_
  simp only[Act.put,sU,sJ,sY]
  exact h211.out c0 c1 _ q
 intro bs bf v14 H0
 have H:Hid _:=H0
 clear H0
 try clear FD
 have F:Hid _:=H.out
 clear H
 refine wTt ?_
 simp only[oS]
 have KA:Hid _:=F.out.at (mC _ mQ)
 go_wp2_with(refine wpPr rfl 187 _ _ rfl bs (Iv .u64 s) rfl rfl _ _ KA.out (bE ls.out) (rS ls.out) (aG _ _) (fun v16 hP=>sH ?_))
 refine aH ?_
 have F1:Hid _:=F.out.put1 hP
 clear hP KA F
 have F:Hid _:=F1.out
 clear F1
 go_wp2_with fail
 refine⟨F.out.tail.tail,?_⟩
 refine wTl ?_
 simp only[oS]
 have KA:Hid _:=F.out.at mQ
 go_wp2_with(refine wpPr rfl 187 _ _ rfl bf (Iv .u64 f) rfl rfl _ _ KA.out (bE lf.out) (rS lf.out) (aG _ _) (fun v17 hP=>sH ?_))
 refine aH ?_
 have F1:Hid _:=F.out.put0 hP
 clear hP KA F
 have F:Hid _:=F1.out
 clear F1
 refine aQ ?_
 have G0:Hid _:=F.out.at (mC _ (mC _ (mC _ (mC _ (mC _ (mC _ mQ))))))
 have G1:Hid _:=F.out.at (mC _ (mC _ (mC _ (mC _ (mC _ mQ)))))
 go_wp2_with(with_reducible refine aJ ?_;first
  | refine wpLr rfl 187 _ rfl baa rfl _ (Iv .u64 aa) _ _ G0.out underlying187 rfl (bE laa.out) ?_
  | refine wpLr rfl 187 _ rfl bbb rfl _ (Iv .u64 bb) _ _ G1.out underlying187 rfl (bE lbb.out) ?_)
 clear G0 G1
 refine(Cx1.out _).mono ?_
 rintro e9 v18 ⟨rfl,hb⟩
 have F1:Hid _:=F.out.later hb (nQ _)
 clear hb F
 have F:Hid _:=F1.out
 clear F1
 have KA:Hid _:=F.out.at (mC _ (mC _ (mC _ (mC _ (mC _ (mC _ (mC _ (mC _ (mC _ (mC _ (mC _ (mC _ (mC _ (mC _ mQ))))))))))))))
 have hlq:Hid (x1.length=px.length):=by show _=_;rw[lx1.out,lpx.out]
 go_wp2_with(refine xJ rfl 187 _ _ rfl (w.heap.size+1) .u64 x1 px pz rfl rfl _ KA.out (jO lx1.out) hlq.out (fun v19 hP=>sH ?_))
 refine aH ?_
 have F1:Hid _:=F.out.put14 hP
 clear hP KA F hlq
 have F:Hid _:=F1.out
 clear F1
 go_wp2_with fail
 have F1:Hid _:=F.out.drew
 clear F
 have F:Hid _:=F1.out
 clear F1
 refine wRt 8 (fun w'=>∃x:Wp (fun v=>Rn w [rE bf f,rE bs s,rE bcb cb,rE bda da,rE bg g,rE bbb bb,rE baa aa,rE bd d,rE bc c,rE bb_ b,rE ba a,rR (w.heap.size+1+1+1+1) (aA 10),rR (w.heap.size+1+1+1) (aA 10),rR (w.heap.size+1+1) (qx++qz),rR (w.heap.size+1) (x1++pz),rE w.heap.size u] v),w'=x.w) (.held [0,1,2,3] (.tail 4 (.tail 5 (.tail 6 (.held [7] (.last 8 .done)))))) jE (by kernel_rfl) ⟨⟨_,F.out⟩,rfl⟩ ?_
 refine wTh ?_
 simp only[oS]
 refine wqLr rfl 187 _ rfl bg rfl _ (Iv .u64 g) _ _ (fun w' hw'=>by obtain⟨x,rfl⟩:=hw';exact x.p.at (mC _ (mC _ (mC _ (mC _ mQ))))) underlying187 rfl (bE lg.out) ?_
 simp only[Act.put,sU,sJ,sY]
 refine wqLr rfl 187 _ rfl baa rfl _ (Iv .u64 aa) _ _ (fun w' hw'=>by obtain⟨x,rfl⟩:=hw';exact x.p.at (mC _ (mC _ (mC _ (mC _ (mC _ (mC _ mQ))))))) underlying187 rfl (bE laa.out) ?_
 simp only[Act.put,sU,sJ,sY]
 refine wqLr rfl 187 _ rfl bg rfl _ (Iv .u64 g) _ _ (fun w' hw'=>by obtain⟨x,rfl⟩:=hw';exact x.p.at (mC _ (mC _ (mC _ (mC _ mQ))))) underlying187 rfl (bE lg.out) ?_
 simp only[Act.put,sU,sJ,sY]
 refine bF rfl 187 _ rfl (Iv .u64 k1) _ (by kernel_rfl) HBU.out ?_
 simp only[Act.put,sU,sJ,sY]
 refine wqN ?_
 refine wTt ?_
 simp only[oS]
 go_wp2_with fail
 refine(Ct1.out _).mono ?_
 rintro e9 v20 ⟨rfl,hb⟩
 have F1:Hid _:=F.out.later hb (nQ _)
 clear hb F
 have F:Hid _:=F1.out
 clear F1
 go_wp2_with fail
 refine⟨⟨⟨_,F.out⟩,rfl⟩,?_⟩
 refine wTt ?_
 simp only[oS]
 go_wp2_with fail
 refine(Ct2.out _).mono ?_
 rintro e9 v21 ⟨rfl,hb⟩
 have F1:Hid _:=F.out.later hb (nQ _)
 clear hb F
 have F:Hid _:=F1.out
 clear F1
 go_wp2_with fail
 refine⟨⟨⟨_,F.out⟩,rfl⟩,?_⟩
 refine wTt ?_
 simp only[oS]
 go_wp2_with fail
 refine(Cz1.out _).mono ?_
 rintro e9 v22 ⟨rfl,hb⟩
 have F1:Hid _:=F.out.later hb (nQ _)
 clear hb F
 have F:Hid _:=F1.out
 clear F1
 go_wp2_with fail
 refine⟨⟨⟨_,F.out⟩,rfl⟩,?_⟩
 refine wTh ?_
 simp only[oS]
 refine aB rfl (.pointer (some ⟨(w.heap.size+1),5,none⟩)) (fun w'=>by kernel_rfl) ?_
 simp only[Act.put,sU,sJ,sY]
 refine wqN ?_
 refine wTl ?_
 simp only[oS]
 have KA:Hid _:=F.out.at (mC _ (mC _ (mC _ (mC _ (mC _ (mC _ (mC _ (mC _ (mC _ (mC _ (mC _ (mC _ (mC _ (mC _ mQ))))))))))))))
 have hlq:Hid (z1.length=pz.length):=by show _=_;rw[lz1.out,lpz.out]
 go_wp2_with(refine xM rfl 187 _ _ rfl (w.heap.size+1) 5 .u64 z1 x1 pz rfl rfl _ KA.out (jO lz1.out) lx1.out hlq.out (fun v23 hP=>sH ?_))
 refine aH ?_
 have F1:Hid _:=F.out.put14 hP
 clear hP KA F hlq
 have F:Hid _:=F1.out
 clear F1
 refine aQ ?_
 have G0:Hid _:=F.out.at (mC _ mQ)
 go_wp2_with(with_reducible refine aJ ?_;first
  | refine wpLr rfl 187 _ rfl bs rfl _ (Iv .u64 s) _ _ G0.out underlying187 rfl (bE ls.out) ?_)
 clear G0
 refine(Cx2.out _).mono ?_
 rintro e9 v24 ⟨rfl,hb⟩
 have F1:Hid _:=F.out.later hb (nQ _)
 clear hb F
 have F:Hid _:=F1.out
 clear F1
 have KA:Hid _:=F.out.at (mC _ (mC _ (mC _ (mC _ (mC _ (mC _ (mC _ (mC _ (mC _ (mC _ (mC _ (mC _ (mC _ mQ)))))))))))))
 have hlq:Hid (x2.length=qx.length):=by show _=_;rw[lx2.out,lqx.out]
 go_wp2_with(refine xJ rfl 187 _ _ rfl (w.heap.size+1+1) .u64 x2 qx qz rfl rfl _ KA.out (jO lx2.out) hlq.out (fun v25 hP=>sH ?_))
 refine aH ?_
 have F1:Hid _:=F.out.put13 hP
 clear hP KA F hlq
 have F:Hid _:=F1.out
 clear F1
 go_wp2_with fail
 have F1:Hid _:=F.out.drew
 clear F
 have F:Hid _:=F1.out
 clear F1
 refine wRt 6 (fun w'=>∃x:Wp (fun v=>Rn w [rE bf f,rE bs s,rE bcb cb,rE bda da,rE bg g,rE bbb bb,rE baa aa,rE bd d,rE bc c,rE bb_ b,rE ba a,rR (w.heap.size+1+1+1+1) (aA 10),rR (w.heap.size+1+1+1) (aA 10),rR (w.heap.size+1+1) (x2++qz),rR (w.heap.size+1) (x1++z1),rE w.heap.size u] v),w'=x.w) (.held [0,1,2] (.tail 3 (.tail 4 (.held [5] (.last 6 .done))))) jE (by kernel_rfl) ⟨⟨_,F.out⟩,rfl⟩ ?_
 refine wTh ?_
 simp only[oS]
 refine wqLr rfl 187 _ rfl w.heap.size rfl _ (Iv .u64 u) _ _ (fun w' hw'=>by obtain⟨x,rfl⟩:=hw';exact x.p.at (mC _ (mC _ (mC _ (mC _ (mC _ (mC _ (mC _ (mC _ (mC _ (mC _ (mC _ (mC _ (mC _ (mC _ (mC _ mQ)))))))))))))))) underlying187 rfl (bE lu.out) ?_
 simp only[Act.put,sU,sJ,sY]
 refine wqLr rfl 187 _ rfl bf rfl _ (Iv .u64 f) _ _ (fun w' hw'=>by obtain⟨x,rfl⟩:=hw';exact x.p.at mQ) underlying187 rfl (bE lf.out) ?_
 simp only[Act.put,sU,sJ,sY]
 refine wqLr rfl 187 _ rfl bf rfl _ (Iv .u64 f) _ _ (fun w' hw'=>by obtain⟨x,rfl⟩:=hw';exact x.p.at mQ) underlying187 rfl (bE lf.out) ?_
 simp only[Act.put,sU,sJ,sY]
 refine wqN ?_
 refine wTt ?_
 simp only[oS]
 go_wp2_with fail
 refine(Cff.out _).mono ?_
 rintro e9 v26 ⟨rfl,hb⟩
 have F1:Hid _:=F.out.later hb (nQ _)
 clear hb F
 have F:Hid _:=F1.out
 clear F1
 go_wp2_with fail
 refine⟨⟨⟨_,F.out⟩,rfl⟩,?_⟩
 refine wTt ?_
 simp only[oS]
 go_wp2_with fail
 refine(Cz2.out _).mono ?_
 rintro e9 v27 ⟨rfl,hb⟩
 have F1:Hid _:=F.out.later hb (nQ _)
 clear hb F
 have F:Hid _:=F1.out
 clear F1
 go_wp2_with fail
 refine⟨⟨⟨_,F.out⟩,rfl⟩,?_⟩
 refine wTh ?_
 simp only[oS]
 refine aB rfl (.pointer (some ⟨(w.heap.size+1+1),5,none⟩)) (fun w'=>by kernel_rfl) ?_
 simp only[Act.put,sU,sJ,sY]
 refine wqN ?_
 refine wTl ?_
 simp only[oS]
 have KA:Hid _:=F.out.at (mC _ (mC _ (mC _ (mC _ (mC _ (mC _ (mC _ (mC _ (mC _ (mC _ (mC _ (mC _ (mC _ mQ)))))))))))))
 have hlq:Hid (z2.length=qz.length):=by show _=_;rw[lz2.out,lqz.out]
 go_wp2_with(refine xM rfl 187 _ _ rfl (w.heap.size+1+1) 5 .u64 z2 x2 qz rfl rfl _ KA.out (jO lz2.out) lx2.out hlq.out (fun v28 hP=>sH ?_))
 refine aH ?_
 have F1:Hid _:=F.out.put13 hP
 clear hP KA F hlq
 have F:Hid _:=F1.out
 clear F1
 refine aQ ?_
 have lr1:Hid ((x1++z1).length=10):=by show _=_;rw[lQ,lx1.out,lz1.out]
 have lr2:Hid ((x2++z2).length=10):=by show _=_;rw[lQ,lx2.out,lz2.out]
 go_wp2_with fail
 have F1:Hid _:=F.out.drew
 clear F
 have F:Hid _:=F1.out
 clear F1
 refine wRt 3 (fun w'=>∃x:Wp (fun v=>Rn w [rE bf f,rE bs s,rE bcb cb,rE bda da,rE bg g,rE bbb bb,rE baa aa,rE bd d,rE bc c,rE bb_ b,rE ba a,rR (w.heap.size+1+1) (x2++z2),rR (w.heap.size+1) (x1++z1),rE w.heap.size u] v),w'=x.w) (.held [0,1] (.tail 2 (.last 3 .done))) jE (by kernel_rfl) ⟨⟨_,F.out.sub (by repeat(first|exact List.Sublist.slnil|apply List.Sublist.cons_cons|apply List.Sublist.cons))⟩,rfl⟩ ?_
 refine wTh ?_
 simp only[oS]
 refine wqLr rfl 189 _ rfl (w.heap.size+1) rfl _ (Iv .u64 (x1++z1)) _ _ (fun w' hw'=>by obtain⟨x,rfl⟩:=hw';exact x.p.at (mC _ (mC _ (mC _ (mC _ (mC _ (mC _ (mC _ (mC _ (mC _ (mC _ (mC _ (mC _ mQ))))))))))))) underlying189 rfl (dA lr1.out) ?_
 simp only[Act.put,sU,sJ,sY]
 refine wqLr rfl 189 _ rfl (w.heap.size+1+1) rfl _ (Iv .u64 (x2++z2)) _ _ (fun w' hw'=>by obtain⟨x,rfl⟩:=hw';exact x.p.at (mC _ (mC _ (mC _ (mC _ (mC _ (mC _ (mC _ (mC _ (mC _ (mC _ (mC _ mQ)))))))))))) underlying189 rfl (dA lr2.out) ?_
 simp only[Act.put,sU,sJ,sY]
 refine wqN ?_
 refine wTt ?_
 simp only[oS]
 have KA:Hid _:=F.out.at (mC _ (mC _ (mC _ (mC _ (mC _ (mC _ (mC _ (mC _ (mC _ (mC _ (mC _ (mC _ mQ))))))))))))
 go_wp2_with(refine wpPr rfl 189 _ _ rfl (w.heap.size+1+1+1) (Iv .u64 (x1++z1)) rfl rfl _ _ KA.out (dA lr1.out) (DW lr1.out) (aG _ _) (fun v29 hP=>sH ?_))
 refine aH ?_
 have F1:Hid _:=F.out.put12 hP
 clear hP KA F
 have F:Hid _:=F1.out
 clear F1
 go_wp2_with fail
 refine⟨⟨⟨_,F.out.sub (by repeat(first|exact List.Sublist.slnil|apply List.Sublist.cons_cons|apply List.Sublist.cons))⟩,rfl⟩,?_⟩
 refine wTl ?_
 simp only[oS]
 have KA:Hid _:=F.out.at (mC _ (mC _ (mC _ (mC _ (mC _ (mC _ (mC _ (mC _ (mC _ (mC _ (mC _ mQ)))))))))))
 go_wp2_with(refine wpPr rfl 189 _ _ rfl (w.heap.size+1+1+1+1) (Iv .u64 (x2++z2)) rfl rfl _ _ KA.out (dA lr2.out) (DW lr2.out) (aG _ _) (fun v30 hP=>sH ?_))
 refine aH ?_
 have F1:Hid _:=F.out.put11 hP
 clear hP KA F
 have F:Hid _:=F1.out
 clear F1
 refine aQ ?_
 have M1:=F.out.at (mC _ (mC _ (mC _ (mC _ (mC _ (mC _ (mC _ (mC _ (mC _ (mC _ (mC _ (mC _ mQ))))))))))))
 have M2:=F.out.at (mC _ (mC _ (mC _ (mC _ (mC _ (mC _ (mC _ (mC _ (mC _ (mC _ (mC _ mQ)))))))))))
 have B9:=F.out.bel
 clear F
 obtain⟨r1,er1⟩:∃r,x1++z1=r:=⟨_,rfl⟩
 obtain⟨r2,er2⟩:∃r,x2++z2=r:=⟨_,rfl⟩
 rw[er1]at M1 lr1
 rw[er2]at M2 lr2
 have E1:Hid _:=er1
 have E2:Hid _:=er2
 clear er1 er2
 go_wp2
 exact bodyPost_ret (v:=.tuple #[.agg (Iv .u64 r1),.agg (Iv .u64 r2)]) (iV rfl _ _ _ _ _ _ (Iv .u64 r1) (Iv .u64 r2) _ _ rfl rfl M1 M2 underlying189 rfl (dA lr1.out) underlying189 rfl (dA lr2.out)) rfl ⟨by rw[E1.out,E2.out],B9⟩
theorem agP:∀x:Fin 256,∀j:Fin 8,bits .and .u8 (x.val:Int) 248 / 2^j.val%2=if j.val<3 then 0 else(x.val:Int) / 2^j.val%2:=of_decide_eq_true (by kernel_rfl)
theorem ajP:∀x:Fin 256,∀j:Fin 8,bits .or .u8 (bits .and .u8 (x.val:Int) 127) 64 / 2^j.val%2=if j.val=6 then 1 else if j.val=7 then 0 else(x.val:Int) / 2^j.val%2:=of_decide_eq_true (by kernel_rfl)
def mO (l:LI):LI:=(l.set 0 (bits .and .u8 (l.getD 0 0) 248)).set 31 (bits .or .u8 (bits .and .u8 (l.getD 31 0) 127) 64)
theorem J6 (l:LI):(mO l).length=l.length:=by simp[mO]
theorem ab1 (l:LI) (hl:l.length=32) (i:Nat):(mO l).getD i 0=if i=31 then bits .or .u8 (bits .and .u8 (l.getD 31 0) 127) 64 else if i=0 then bits .and .u8 (l.getD 0 0) 248 else l.getD i 0:=by
 unfold mO
 rw[tL _ _ _ _ (by rw[lJ,hl];decide),tL _ _ _ _ (by rw[hl];decide)]
theorem Y9 (l:LI) (hl:l.length=32) (hb:aC l) (n:Nat) (hn:n≤254):(mO l).getD (n / 8) 0 / 2^(n%8)%2=nV l n:=by
 have hx:∀i,∃x:Fin 256,l.getD i 0=(x.val:Int):=fun i=>by
  have h:=hb i
  exact⟨⟨(l.getD i 0).toNat,by omega⟩,by simp only;omega⟩
 rw[ab1 l hl]
 by_cases h1:n / 8=31
 ·obtain⟨x,hx⟩:=hx 31
  have h:=ajP x ⟨n%8,by omega⟩
  simp only at h
  rw[if_pos h1,hx,h]
  by_cases h6:n=254
  ·rw[if_pos (show n%8=6 by omega)]
   unfold nV
   rw[if_neg (show¬(n=255∨n<3) by omega),if_pos h6]
  ·rw[if_neg (show¬n%8=6 by omega),if_neg (show¬n%8=7 by omega)]
   unfold nV
   rw[if_neg (show¬(n=255∨n<3) by omega),if_neg h6,h1,hx]
 ·rw[if_neg h1]
  by_cases h0:n / 8=0
  ·obtain⟨x,hx⟩:=hx 0
   have h:=agP x ⟨n%8,by omega⟩
   simp only at h
   rw[if_pos h0,hx,h]
   by_cases h3:n<3
   ·rw[if_pos (show n%8<3 by omega)]
    unfold nV
    rw[if_pos (show n=255∨n<3 by omega)]
   ·rw[if_neg (show¬n%8<3 by omega)]
    unfold nV
    rw[if_neg (show¬(n=255∨n<3) by omega),if_neg (show¬n=254 by omega),h0,hx]
  ·rw[if_neg h0]
   unfold nV
   rw[if_neg (show¬(n=255∨n<3) by omega),if_neg (show¬n=254 by omega)]
end Go.Proofs.YtmjccemdldidaaaGreatDoor
