import Derived.Test.YtmjccemdldidaaaGreatDoorMH28
import Derived.Test.YtmjccemdldidaaaGreatDoorMH11
namespace Go.Proofs.YtmjccemdldidaaaGreatDoor
open Go.RowKit
open Go.Proofs.Tryz
open Go renaming wpList_load_row → wpLr, wpQuiet_nil → wqN
open List renaming length_append → lQ, length_map → lU, setIfInBounds_toArray → sU
open Nat renaming le_refl → nQ
set_option linter.unusedVariables false
set_option maxHeartbeats 2000000
set_option maxRecDepth 10000
theorem nT {P:Program} {ops:Array Oper} {rest:List Oper} {op:Oper} {a:Act} {w:World} {Q:Exit→Act→World→Prop} (hgd:op.guard=none) (ty:TypeId) (x y:Operand) (ho:op.op=.store ty x y)
 (k:IntKind) (g i:Nat) (v:Int) (hx:a.eval x=.pointer (some ⟨g,i,none⟩)) (hy:a.eval y=.int k v) (l:List Value) (t:TypeId) (hg:w.heap[g]? =some (.cells l.toArray t))
 (hs:(P.info? ty).map (·.size)=some 1) (hi:i<l.length) (new:List Value) (hnew:l.set i (.int k v)=new)
 (h:∀W,nE w g new.toArray t W→wpList P ops Q rest (a.put op.dst undef) W):wpList P ops Q (op::rest) a w:=by
 subst hnew
 have hP:=jQ hg i (.int k v)
 rw[sU]at hP
 have h2:=h _ hP
 have ht:w.there g i (#[Value.int k v]:Array Value).size:=by
  intro j hj
  simp only[List.size_toArray,List.length_cons,List.length_nil]at hj
  obtain rfl:j=0:=by omega
  refine⟨?_,frozen_of_row w g _ _ t hg⟩
  rw[cell_of_row _ _ _ _ _ _ hg,Nat.add_zero,List.getElem?_toArray,List.getElem?_eq_getElem hi]
  rfl
 have e:(storeVar ty ⟨g,i,none⟩ (.int k v)).run P w=.ok () (w.setCell ⟨g,i,none⟩ (.int k v)):=run_storeVar_mid w g i ty #[.int k v] ht hs (by simp[Value.oneCell'])
 refine wpList_plain hgd fun K hK=>?_
 unfold Oper.wp execOp
 simp only[ho,hx,hy,Instr.storeAt,Instr.sureAddr,Sem.run_bind,Sem.run_pure,Result.andThen_ok,e]
 exact hK _ _ h2
theorem YK {c h:LI} {u v:Value} {r:List Value} (hc:c.length=32) (hh:h.length=32):(dF c h (u::r)).set 64 v=dF c h (v::r):=by
 unfold dF
 rw[List.set_append_right _ _ (by rw[lU,hc];decide),lU,hc,List.set_append_right _ _ (by rw[lU,hh];decide),lU,hh]
 rfl
theorem O2 {W:World} {c h:LI} {v:Value} {r:List Value} {b:Nat} {t:TypeId} {fr:Nat×Nat} (hr:W.heap[b]? =some (.cells (dF c h (v::r)).toArray t fr)) (hc:c.length=32) (hh:h.length=32):W.cell? ⟨b,64,none⟩=some v:=by
 rw[cell_of_row _ _ _ _ _ _ hr,List.getElem?_toArray]
 unfold dF
 rw[List.getElem?_append_right (by rw[lU,hc];decide),lU,hc,List.getElem?_append_right (by rw[lU,hh];decide),lU,hh]
 rfl
theorem acI:(prog.info? 3).map (·.size)=some 1:=by kernel_rfl
theorem RK:prog.plainKey 5=true:=by kernel_rfl
theorem II (d:Nat) (A M:LI) (w:World):∀is:List Nat,(∀i∈is,i<A.length∧i<M.length)→
 (Op.eqItems (d+1) 5 1 (Iv .u8 A) (Iv .u8 M) is).run prog w=.ok (is.all fun i=>A.getD i 0==M.getD i 0) w
 | [],_=>by simp[Op.eqItems]
 | i::is,h=>by
   obtain⟨h1,h2⟩:=h i (by simp)
   have ih:=II d A M w is (fun j hj=>h j (by simp[hj]))
   have p1:=run_part_plain (P:=prog) w RK (dG .u8 A i h1)
   have p2:=run_part_plain (P:=prog) w RK (dG .u8 M i h2)
   rw[show A[i]=A.getD i 0 by simp[List.getD_eq_getElem?_getD,h1]]at p1
   rw[show M[i]=M.getD i 0 by simp[List.getD_eq_getElem?_getD,h2]]at p2
   simp only[Op.eqItems,Nat.mul_one,Sem.run_bind,p1,p2,Result.andThen_ok,run_equalIn_int w d 5 .u8 .u8 _ _ underlying5,List.all_cons]
   cases A.getD i 0==M.getD i 0<;>simp only[Bool.not_false,Bool.not_true,Bool.false_eq_true,if_true,if_false,Bool.false_and,Bool.true_and,Sem.run_pure]
   exact ih
theorem tH (A M:LI) (hA:A.length=32) (hM:M.length=32) (w:World):(Op.equalIn 10000 25 (.agg (Iv .u8 A)) (.agg (Iv .u8 M))).run prog w=.ok (decide (A=M)) w:=by
 obtain⟨i,hi⟩:=info_of_underlying underlying5
 have hc:prog.cellsOf 5=1:=by kernel_rfl
 rw[run_equalIn_array w 9999 _ _ underlying25 hi,hc]
 rw[II 9998 A M w _ (fun i hi=>by simp at hi;omega)]
 congr 1
 rw[Bool.eq_iff_iff,List.all_eq_true]
 simp only[List.mem_range,beq_iff_eq,decide_eq_true_eq]
 constructor
 ·intro h
  apply List.ext_getElem (by omega)
  intro i h1 h2
  have:=h i (by omega)
  simpa[List.getD_eq_getElem?_getD,h1,h2]using this
 ·rintro rfl i _
  rfl
theorem iC:prog.eqGuardType prog.depth 25=false:=by kernel_rfl
theorem iH {P:Program} {ops:Array Oper} {rest:List Oper} {o:Oper} {a:Act} {w:World} {Q:Exit→Act→World→Prop} (hgd:o.guard=none) (t t':TypeId) (x y:Operand) (ho:o.op=.binOp .eql t x y t') (xs ys:Array Value) (hx:a.eval x=.agg xs) (hy:a.eval y=.agg ys) (r:Bool)
 (he:∀w,(Op.equalIn 10000 t (.agg xs) (.agg ys)).run P w=.ok r w) (hm:P.eqGuardType P.depth t=false)
 (h:wpList P ops Q rest (a.put o.dst (.bool r)) w):wpList P ops Q (o::rest) a w:=by
 refine wpList_plain hgd fun K hK=>?_
 have e1:(execOp a.eval o).run P w=.ok (.value (.bool r)) w:=by
  unfold execOp
  simp only[ho,hx,hy,Sem.run_bind,run_eqGuard_agg w .eql t x y xs ys hm,run_eql_struct,he w,Result.andThen_ok,Sem.run_pure]
 unfold Oper.wp
 rw[e1]
 exact hK _ _ h
abbrev eQ (g:Nat) (l:LI):Nat×Array Value×TypeId:=(g,Iv .u8 l,25)
theorem kK {l:LI} (h:l.length=32):(Iv .u8 (aA 32)).size=(Iv .u8 l).size:=by rw[aD,aD,h];rfl
theorem KJ (c h l:LI) (m:Int) (r:List Value) (hc:c.length=32) (hh:h.length=32) (hl:l.length=32) (hlb:aC l) (b:Nat) (t:TypeId) (w:World) (hr:w.heap[b]? =some (.cells (dF c h (.int .i64 m::r)).toArray t)):
 Calls prog 40 #[.pointer (some ⟨b,64,none⟩),.agg (Iv .u8 l)] w fun x w'=>x=.returned (.agg (Iv .u8 (fW l cD)))∧Tn w b (dF c h (.int .i64 (IntKind.i64.wrap (m+1))::r)) t w':=by
 have hz:=dM
 have CS:Hid (∀W,_):=fun W=>AR l m hl hlb W
 obtain⟨A,eA⟩:∃A,fW l cD=A:=⟨_,rfl⟩
 have hA:Hid (A.length=32):=by show _=_;rw[←eA];exact bA _ _
 rw[eA]at CS⊢
 clear eA
 obtain⟨v,ev⟩:∃x,IntKind.i64.wrap (m+1)=x:=⟨_,rfl⟩
 rw[ev]at CS⊢
 clear ev
 have HC:Hid _:=hc
 have H32:Hid _:=hh
 have Hl:Hid _:=hl
 have S0:Hid _:=Sx.start hr
 clear hc hh hl hlb hr
 go_enter func40,ntmps40
 go_wp2_with fail
 obtain⟨n0,e0⟩:∃n,w.heap.size=n:=⟨_,rfl⟩
 have S1:=(S0.out.alloc n0 e0 (Iv .u8 l) 25).alloc (n0+1) (by simp[e0]) (Iv .u8 (aA 32)) 25
 rw[e0]
 obtain⟨W,hW⟩:∃W,(w.alloc (.cells (Iv .u8 l) 25)).alloc (.cells (Iv .u8 (aA 32)) 25)=W:=⟨_,rfl⟩
 rw[hW]at S1⊢
 have S:Hid _:=S1.drew
 refine wRt 11 _ (.held [0,1] (.fork 2 (.held [3,4] (.fork 5 (.held [6,7,8] (.tail 9 (.tail 10 (.last 11 .done)))) 9 (.tail 5 (.held [6,7,8] (.tail 10 (.last 11 .done)))))) 9 (.tail 2 (.held [3,4] (.tail 5 (.held [6,7,8] (.tail 10 (.last 11 .done)))))))) dE (by kernel_rfl) S.out ?_
 obtain⟨y0,ey⟩:∃y,y=W.drew:=⟨_,rfl⟩
 rw[←ey]at S⊢
 clear ey
 refine wTh ?_
 simp only[oS]
 refine wqLr rfl 25 _ rfl n0 rfl _ (Iv .u8 l) _ _ (fun w' hw'=>hw'.at (.tail _ (.head _))) underlying25 rfl (aI Hl.out) ?_
 simp only[pS]
 refine aB rfl (.pointer (some ⟨b,64,none⟩)) (fun w'=>by kernel_rfl) ?_
 simp only[pS]
 refine wqN ?_
 apply cT (.tail 10 (.last 11 .done)) (fun g v=>Sx w b (dF c h (.int .i64 m::r)) t [eQ g (aA 32),eQ (n0+1) (aA 32),eQ n0 l] v)
 intro hZ
 apply cT (.tail 5 (.held [6,7,8] (.tail 10 (.last 11 .done)))) (fun g v=>Sx w b (dF c h (.int .i64 m::r)) t [eQ g (aA 32),eQ (n0+1) (aA 32),eQ n0 l] v)
 intro hY
 refine wTf ?_ ?_
 ·simp only[oS]
  go_wp2_with fail
  refine⟨S.out,?_⟩
  refine wTh ?_
  simp only[oS]
  refine aB rfl (.pointer (some ⟨b,64,none⟩)) (fun w'=>by kernel_rfl) ?_
  simp only[pS]
  refine dL rfl (.int .i64 m) (fun w' hw'=>mF 3 _ rfl ⟨b,64,none⟩ rfl .i64 underlying3 _ _ (O2 hw'.here HC.out H32.out)) ?_
  simp only[pS]
  refine wqN ?_
  refine wTf ?_ ?_
  ·simp only[oS]
   go_wp2_with fail
   refine(CS.out _).mono ?_
   rintro e Z ⟨rfl,hb⟩
   have S2:Hid _:=S.out.later hb
   clear hb
   go_wp2_with fail
   refine⟨S2.out,?_⟩
   refine wTh ?_
   simp only[oS]
   refine aB rfl (.tuple #[.agg (Iv .u8 A),.int .i64 v]) (fun w'=>by kernel_rfl) ?_
   simp only[pS]
   refine aB rfl (.agg (Iv .u8 A)) (fun w'=>by kernel_rfl) ?_
   simp only[pS]
   refine aB rfl (.int .i64 v) (fun w'=>by kernel_rfl) ?_
   simp only[pS]
   refine wqN ?_
   refine wTt ?_
   simp only[oS]
   go_wp2_with fail
   have S3:=S2.out.alloc _ rfl (Iv .u8 (aA 32)) 25
   refine⟨S3.tail,?_⟩
   obtain⟨g,eg⟩:∃g,g=Z.heap.size:=⟨_,rfl⟩
   rw[←eg]at S3⊢
   clear eg
   exact hZ.out g _ S3
  ·simp only[oS]
   go_wp2_with fail
   have S3:=S.out.alloc _ rfl (Iv .u8 (aA 32)) 25
   refine⟨S3.tail,?_⟩
   obtain⟨g,eg⟩:∃g,g=y0.heap.size:=⟨_,rfl⟩
   rw[←eg]at S3⊢
   exact hY.out g _ S3
 ·simp only[oS]
  go_wp2_with fail
  have S3:=S.out.alloc _ rfl (Iv .u8 (aA 32)) 25
  refine⟨S3.tail,?_⟩
  obtain⟨g,eg⟩:∃g,g=y0.heap.size:=⟨_,rfl⟩
  rw[←eg]at S3⊢
  clear eg
  have S4:Hid _:=S3
  clear S3
  refine wTt ?_
  simp only[oS]
  go_wp2_with fail
  refine⟨S4.out.tail,?_⟩
  refine wTh ?_
  simp only[oS]
  refine aB rfl (.pointer (some ⟨b,64,none⟩)) (fun w'=>by kernel_rfl) ?_
  simp only[pS]
  refine dL rfl (.int .i64 m) (fun w' hw'=>mF 3 _ rfl ⟨b,64,none⟩ rfl .i64 underlying3 _ _ (O2 hw'.here HC.out H32.out)) ?_
  simp only[pS]
  refine wqN ?_
  exact hY.out g _ S4.out
 ·intro g v1 H
  have S4:Hid _:=H
  clear H S
  refine wTt ?_
  simp only[oS]
  go_wp2_with fail
  refine(CS.out _).mono ?_
  rintro e Z ⟨rfl,hb⟩
  have S5:Hid _:=S4.out.later hb
  clear hb
  go_wp2_with fail
  refine⟨S5.out.tail,?_⟩
  refine wTh ?_
  simp only[oS]
  refine aB rfl (.tuple #[.agg (Iv .u8 A),.int .i64 v]) (fun w'=>by kernel_rfl) ?_
  simp only[pS]
  refine aB rfl (.agg (Iv .u8 A)) (fun w'=>by kernel_rfl) ?_
  simp only[pS]
  refine aB rfl (.int .i64 v) (fun w'=>by kernel_rfl) ?_
  simp only[pS]
  refine wqN ?_
  exact hZ.out g _ S5.out
 intro g v1 H
 have S4:Hid _:=H
 clear H S CS
 refine wTt ?_
 simp only[oS]
 go_wp2_with(refine wpPr rfl 25 _ _ rfl g (Iv .u8 A) rfl rfl _ _ (S4.out.at (.head _)) (aI hA.out) (kK hA.out) (aG _ _) ?_)
 intro v2 hP
 have S5:Hid _:=S4.out.put0 hP
 go_wp2_with fail
 refine⟨S5.out.tail,?_⟩
 refine wTl ?_
 simp only[oS]
 go_wp2_with fail
 refine aQ ?_
 have hfit:Hid (64<(dF c h (.int .i64 m::r)).length):=by show _<_;rw[iO _ _ _ HC.out H32.out,List.length_cons];omega
 go_wp2_with(refine nT rfl 3 _ _ rfl .i64 b 64 v rfl rfl (dF c h (.int .i64 m::r)) t S5.out.here acI hfit.out _ (YK HC.out H32.out) ?_)
 intro v3 hP
 have S6:Hid _:=S5.out.putR hP
 clear hP S5
 go_wp2_with(first
  | refine wpLr rfl 25 _ rfl g rfl _ (Iv .u8 A) _ _ (S6.out.at (.head _)) underlying25 rfl (aI hA.out) ?_
  | refine wpPr rfl 25 _ _ rfl (n0+1) (Iv .u8 A) rfl rfl _ _ (S6.out.at (.tail _ (.head _))) (aI hA.out) (kK hA.out) (aG _ _) ?_)
 intro v4 hP
 have S7:Hid _:=Sx.putK (R1:=[eQ g A]) S6.out hP
 clear hP S6
 go_wp2_with fail
 exact bodyPost_ret (v:=.agg (Iv .u8 A)) (results_cell_row rfl _ _ _ _ (Iv .u8 A) _ _ rfl (S7.out.at (.tail _ (.head _))) underlying25 rfl (aI hA.out)) rfl ⟨rfl,S7.out.tn⟩
theorem EY (c h l p:LI) (m:Int) (r:List Value) (hc:c.length=32) (hh:h.length=32) (hl:l.length=32) (hlb:aC l) (hp:p.length=32) (hpb:aC p) (b:Nat) (t:TypeId) (w:World) (hr:w.heap[b]? =some (.cells (dF c h (.int .i64 m::r)).toArray t)):
 Calls prog 61 #[.pointer (some ⟨b,64,none⟩),.agg (Iv .u8 l),.agg (Iv .u8 p)] w fun x w'=>x=.returned (.tuple #[.agg (Iv .u8 (fW l p)),if fW l p=aA 32 then jU 29 else .nilIface])∧Tn w b (dF c h (.int .i64 (IntKind.i64.wrap (m+1))::r)) t w':=by
 have hz:=dM
 have CS:Hid (∀W,_):=fun W=>qS l p m hl hp hlb hpb W
 obtain⟨A,eA⟩:∃A,fW l p=A:=⟨_,rfl⟩
 have hA:Hid (A.length=32):=by show _=_;rw[←eA];exact bA _ _
 rw[eA]at CS⊢
 obtain⟨v,ev⟩:∃x,IntKind.i64.wrap (m+1)=x:=⟨_,rfl⟩
 rw[ev]at CS⊢
 clear ev
 obtain⟨er,ee⟩:∃x,(if A=aA 32 then jU 29 else .nilIface)=x:=⟨_,rfl⟩
 rw[ee]
 have EE:Hid _:=ee
 clear ee
 have HC:Hid _:=hc
 have H32:Hid _:=hh
 have Hl:Hid _:=hl
 have Hp:Hid _:=hp
 have S0:Hid _:=Sx.start hr
 clear hc hh hl hlb hr hp hpb
 go_enter func61,ntmps61
 go_wp2_with fail
 obtain⟨n0,e0⟩:∃n,w.heap.size=n:=⟨_,rfl⟩
 have S1:=((S0.out.alloc n0 e0 (Iv .u8 l) 25).alloc (n0+1) (by simp[e0]) (Iv .u8 p) 25).alloc (n0+1+1) (by simp[e0]) (Iv .u8 (aA 32)) 25
 rw[e0]
 obtain⟨W,hW⟩:∃W,((w.alloc (.cells (Iv .u8 l) 25)).alloc (.cells (Iv .u8 p) 25)).alloc (.cells (Iv .u8 (aA 32)) 25)=W:=⟨_,rfl⟩
 rw[hW]at S1⊢
 have S:Hid _:=S1.drew
 clear hW S1 S0 e0
 refine wRt 12 _ (.held [0,1,2] (.fork 3 (.held [4,5] (.fork 6 (.held [7,8,9] (.tail 10 (.tail 11 (.last 12 .done)))) 10 (.tail 6 (.held [7,8,9] (.tail 11 (.last 12 .done)))))) 10 (.tail 3 (.held [4,5] (.tail 6 (.held [7,8,9] (.tail 11 (.last 12 .done)))))))) dE (by kernel_rfl) S.out ?_
 obtain⟨y0,ey⟩:∃y,y=W.drew:=⟨_,rfl⟩
 rw[←ey]at S⊢
 clear ey
 refine wTh ?_
 simp only[oS]
 refine wqLr rfl 25 _ rfl n0 rfl _ (Iv .u8 l) _ _ (fun w' hw'=>hw'.at (.tail _ (.tail _ (.head _)))) underlying25 rfl (aI Hl.out) ?_
 simp only[pS]
 refine wqLr rfl 25 _ rfl (n0+1) rfl _ (Iv .u8 p) _ _ (fun w' hw'=>hw'.at (.tail _ (.head _))) underlying25 rfl (aI Hp.out) ?_
 simp only[pS]
 refine aB rfl (.pointer (some ⟨b,64,none⟩)) (fun w'=>by kernel_rfl) ?_
 simp only[pS]
 refine wqN ?_
 apply cT (.tail 11 (.last 12 .done)) (fun g v=>Sx w b (dF c h (.int .i64 m::r)) t [eQ g (aA 32),eQ (n0+1+1) (aA 32),eQ (n0+1) p,eQ n0 l] v)
 intro hZ
 apply cT (.tail 6 (.held [7,8,9] (.tail 11 (.last 12 .done)))) (fun g v=>Sx w b (dF c h (.int .i64 m::r)) t [eQ g (aA 32),eQ (n0+1+1) (aA 32),eQ (n0+1) p,eQ n0 l] v)
 intro hY
 refine wTf ?_ ?_
 ·simp only[oS]
  go_wp2_with fail
  refine⟨S.out,?_⟩
  refine wTh ?_
  simp only[oS]
  refine aB rfl (.pointer (some ⟨b,64,none⟩)) (fun w'=>by kernel_rfl) ?_
  simp only[pS]
  refine dL rfl (.int .i64 m) (fun w' hw'=>mF 3 _ rfl ⟨b,64,none⟩ rfl .i64 underlying3 _ _ (O2 hw'.here HC.out H32.out)) ?_
  simp only[pS]
  refine wqN ?_
  refine wTf ?_ ?_
  ·simp only[oS]
   go_wp2_with fail
   refine(CS.out _).mono ?_
   rintro e Z ⟨rfl,hb⟩
   have S2:Hid _:=S.out.later hb
   go_wp2_with fail
   refine⟨S2.out,?_⟩
   refine wTh ?_
   simp only[oS]
   refine aB rfl (.tuple #[.agg (Iv .u8 A),.int .i64 v]) (fun w'=>by kernel_rfl) ?_
   simp only[pS]
   refine aB rfl (.agg (Iv .u8 A)) (fun w'=>by kernel_rfl) ?_
   simp only[pS]
   refine aB rfl (.int .i64 v) (fun w'=>by kernel_rfl) ?_
   simp only[pS]
   refine wqN ?_
   refine wTt ?_
   simp only[oS]
   go_wp2_with fail
   have S3:=S2.out.alloc _ rfl (Iv .u8 (aA 32)) 25
   refine⟨S3.tail,?_⟩
   obtain⟨g,eg⟩:∃g,g=Z.heap.size:=⟨_,rfl⟩
   rw[←eg]at S3⊢
   clear eg
   exact hZ.out g _ S3
  ·simp only[oS]
   go_wp2_with fail
   have S3:=S.out.alloc _ rfl (Iv .u8 (aA 32)) 25
   refine⟨S3.tail,?_⟩
   obtain⟨g,eg⟩:∃g,g=y0.heap.size:=⟨_,rfl⟩
   rw[←eg]at S3⊢
   clear eg
   exact hY.out g _ S3
 ·simp only[oS]
  go_wp2_with fail
  have S3:=S.out.alloc _ rfl (Iv .u8 (aA 32)) 25
  refine⟨S3.tail,?_⟩
  obtain⟨g,eg⟩:∃g,g=y0.heap.size:=⟨_,rfl⟩
  rw[←eg]at S3⊢
  clear eg
  have S4:Hid _:=S3
  clear S3
  refine wTt ?_
  simp only[oS]
  go_wp2_with fail
  refine⟨S4.out.tail,?_⟩
  refine wTh ?_
  simp only[oS]
  refine aB rfl (.pointer (some ⟨b,64,none⟩)) (fun w'=>by kernel_rfl) ?_
  simp only[pS]
  refine dL rfl (.int .i64 m) (fun w' hw'=>mF 3 _ rfl ⟨b,64,none⟩ rfl .i64 underlying3 _ _ (O2 hw'.here HC.out H32.out)) ?_
  simp only[pS]
  refine wqN ?_
  exact hY.out g _ S4.out
 ·intro g v1 H
  have S4:Hid _:=H
  refine wTt ?_
  simp only[oS]
  go_wp2_with fail
  refine(CS.out _).mono ?_
  rintro e Z ⟨rfl,hb⟩
  have S5:Hid _:=S4.out.later hb
  clear hb
  go_wp2_with fail
  refine⟨S5.out.tail,?_⟩
  refine wTh ?_
  simp only[oS]
  refine aB rfl (.tuple #[.agg (Iv .u8 A),.int .i64 v]) (fun w'=>by kernel_rfl) ?_
  simp only[pS]
  refine aB rfl (.agg (Iv .u8 A)) (fun w'=>by kernel_rfl) ?_
  simp only[pS]
  refine aB rfl (.int .i64 v) (fun w'=>by kernel_rfl) ?_
  simp only[pS]
  refine wqN ?_
  exact hZ.out g _ S5.out
 intro g v1 H
 have S4:Hid _:=H
 clear H S CS
 refine wTt ?_
 simp only[oS]
 go_wp2_with(refine wpPr rfl 25 _ _ rfl g (Iv .u8 A) rfl rfl _ _ (S4.out.at (.head _)) (aI hA.out) (kK hA.out) (aG _ _) ?_)
 intro v2 hP
 have S5:Hid _:=S4.out.put0 hP
 clear hP S4
 go_wp2_with fail
 refine⟨S5.out.tail,?_⟩
 refine wTl ?_
 simp only[oS]
 go_wp2_with fail
 refine aQ ?_
 have hfit:Hid (64<(dF c h (.int .i64 m::r)).length):=by show _<_;rw[iO _ _ _ HC.out H32.out,List.length_cons];omega
 go_wp2_with(refine nT rfl 3 _ _ rfl .i64 b 64 v rfl rfl (dF c h (.int .i64 m::r)) t S5.out.here acI hfit.out _ (YK HC.out H32.out) ?_)
 intro v3 hP
 have S6:Hid _:=S5.out.putR hP
 clear hP S5
 have hbz:Hid (prog.built 25 []=some (Iv .u8 (aA 32))):=by show _=_;kernel_rfl
 by_cases hE:A=aA 32
 ·have EE2:Hid (er=jU 29):=by have h:=EE.out;rw[if_pos hE]at h;exact h.symm
  have he:Hid (∀w,(Op.equalIn 10000 25 (.agg (Iv .u8 A)) (.agg (Iv .u8 (aA 32)))).run prog w=.ok true w):=fun w=>by rw[tH A (aA 32) hA.out rfl w,decide_eq_true hE]
  clear hE
  go_wp2_with(first
   | refine wpLr rfl 25 _ rfl g rfl _ (Iv .u8 A) _ _ (S6.out.at (.head _)) underlying25 rfl (aI hA.out) ?_
   | refine aN rfl 25 _ rfl (Iv .u8 (aA 32)) _ (by kernel_rfl) hbz.out ?_
   | refine iH rfl 25 25 _ _ rfl (Iv .u8 A) (Iv .u8 (aA 32)) rfl rfl _ he.out iC ?_
   | refine wpPr rfl 25 _ _ rfl (n0+1+1) (Iv .u8 A) rfl rfl _ _ (S6.out.at (.tail _ (.head _))) (aI hA.out) (kK hA.out) (aG _ _) ?_)
  intro v4 hP
  have S7:Hid _:=Sx.putK (R1:=[eQ g A]) S6.out hP
  clear hP S6
  go_wp2_with fail
  exact bodyPost_ret (v:=.tuple #[.agg (Iv .u8 A),jU 29]) (dQ rfl _ _ _ _ (Iv .u8 A) _ _ rfl rfl (S7.out.at (.tail _ (.head _))) underlying25 rfl (aI hA.out)) rfl ⟨by rw[EE2.out],S7.out.tn⟩
 ·have EE2:Hid (er=.nilIface):=by have h:=EE.out;rw[if_neg hE]at h;exact h.symm
  have he:Hid (∀w,(Op.equalIn 10000 25 (.agg (Iv .u8 A)) (.agg (Iv .u8 (aA 32)))).run prog w=.ok false w):=fun w=>by rw[tH A (aA 32) hA.out rfl w,decide_eq_false hE]
  go_wp2_with(first
   | refine wpLr rfl 25 _ rfl g rfl _ (Iv .u8 A) _ _ (S6.out.at (.head _)) underlying25 rfl (aI hA.out) ?_
   | refine aN rfl 25 _ rfl (Iv .u8 (aA 32)) _ (by kernel_rfl) hbz.out ?_
   | refine iH rfl 25 25 _ _ rfl (Iv .u8 A) (Iv .u8 (aA 32)) rfl rfl _ he.out iC ?_
   | refine wpPr rfl 25 _ _ rfl (n0+1+1) (Iv .u8 A) rfl rfl _ _ (S6.out.at (.tail _ (.head _))) (aI hA.out) (kK hA.out) (aG _ _) ?_)
  intro v4 hP
  have S7:Hid _:=Sx.putK (R1:=[eQ g A]) S6.out hP
  clear hP S6
  go_wp2_with fail
  exact bodyPost_ret (v:=.tuple #[.agg (Iv .u8 A),.nilIface]) (dQ rfl _ _ _ _ (Iv .u8 A) _ _ rfl rfl (S7.out.at (.tail _ (.head _))) underlying25 rfl (aI hA.out)) rfl ⟨by rw[EE2.out],S7.out.tn⟩
theorem pH (l p:LI):aC (fW l p):=tO _ _ (fun i=>by omega)
theorem Sx.sl {w y:World} {b g o:Nat} {cs:List Value} {t:TypeId} {R:Rs} {l:LI} (h:Sx w b cs t R y) (hs:Sl w g o l) (hne:g≠b):Sl y g o l:=hs.turn h.tn hne
theorem afP {W:World} {c h G:LI} {v:Value} {b:Nat} {t:TypeId} {fr:Nat×Nat} (hr:W.heap[b]? =some (.cells (dF c h (v::G.map (Value.int .u8))).toArray t fr)) (hc:c.length=32) (hh:h.length=32) (hG:G.length=32):W.rangeAt b 65 (G.map (Value.int .u8)):=by
 have:=gZ hr 65 32
 have e:(dF c h (v::G.map (Value.int .u8))).drop 65=G.map (Value.int .u8):=by
  unfold dF
  rw[show 65=(c.map (Value.int .u8)).length+((h.map (Value.int .u8)).length+1) by simp[hc,hh],←List.drop_drop,List.drop_left,←List.drop_drop,List.drop_left]
  rfl
 rwa[e,List.take_of_length_le (by rw[lU,hG];exact nQ _)]at this
def sfC (c p:LI):LI:=fF (fJ c p) 0
def sfX (c h p text:LI):LI:=GZ (fF (fJ c p) 1) h text
theorem GK (c p:LI):(sfC c p).length=32:=aY _ _
theorem X7 (c h p text:LI):(sfX c h p text).length=text.length+16:=PK _ _ _
theorem FA (c h l text G:LI) (m:Int) (hc:c.length=32) (hh:h.length=32) (hl:l.length=32) (hG:G.length=32) (hcb:aC c) (hhb:aC h) (hlb:aC l) (hGb:aC G) (htb:aC text) (n:Nat) (hn:text.length=n) (hn2:n≤65536) (tg to_ tc:Nat) (htc:n≤tc) (htc2:tc≤9223372036854775807) (b:Nat) (hb3:3<b) (t:TypeId) (w:World) (hr:w.heap[b]? =some (.cells (dF c h (.int .i64 m::G.map (Value.int .u8))).toArray t)) (ht:cN w) (hS:Sl w tg to_ text) (hne:tg≠b):
 Calls prog 42 #[.pointer (some ⟨b,0,none⟩),.agg (Iv .u8 l),.slice (some ⟨tg,to_,none⟩) n tc] w fun x w'=>
  (fW l G=aA 32∧x=.returned (.tuple #[.slice none 0 0,jU 29])∧Tn w b (dF c h (.int .i64 (IntKind.i64.wrap (m+1))::G.map (Value.int .u8))) t w')∨
  (fW l G≠aA 32∧∃g cap,x=.returned (.tuple #[.slice (some ⟨g,0,none⟩) (n+16) cap,.nilIface])∧w.heap.size≤g∧n+16≤cap∧cap≤9223372036854775807∧Sl w' g 0 (sfX c h (fW l G) text)∧Tn w b (dF (sfC c (fW l G)) (dC (h++sfX c h (fW l G) text)) (.int .i64 (IntKind.i64.wrap (m+1))::G.map (Value.int .u8))) t w'):=by
 have CP:Hid (∀(W:World) (hr:W.heap[b]? =some (.cells (dF c h (.int .i64 m::G.map (Value.int .u8))).toArray t)),_):=fun W hr=>EY c h l G m (G.map (Value.int .u8)) hc hh hl hlb hG hGb b t W hr
 obtain⟨p,ep⟩:∃p,fW l G=p:=⟨_,rfl⟩
 have hpl:Hid (p.length=32):=by show _=_;rw[←ep];exact bA _ _
 have hpb:Hid (aC p):=by show aC _;rw[←ep];exact pH _ _
 rw[ep]at CP⊢
 clear ep
 obtain⟨v,ev⟩:∃x,IntKind.i64.wrap (m+1)=x:=⟨_,rfl⟩
 rw[ev]at CP⊢
 clear ev
 have HC:Hid _:=hc
 have H32:Hid _:=hh
 have Hl:Hid _:=hl
 have HG:Hid _:=hG
 have HCB:Hid _:=hcb
 have HHB:Hid _:=hhb
 have HTB:Hid _:=htb
 have HN:Hid _:=hn
 have HTC:Hid (n≤tc∧tc≤9223372036854775807∧n≤65536):=⟨htc,htc2,hn2⟩
 have HT:Hid (cN w):=ht
 have HS:Hid (Sl w tg to_ text∧tg≠b):=⟨hS,hne⟩
 have S0:Hid _:=Sx.start hr
 clear hc hh hl hG hcb hhb hlb hGb htb hn hn2 htc htc2 ht hr hS hne
 obtain⟨G',eG⟩:∃x,G.map (Value.int .u8)=x:=⟨_,rfl⟩
 have EG:Hid _:=eG
 rw[eG]at CP S0⊢
 clear eG
 by_cases hE:p=aA 32
 ·refine Calls.mono (R:=fun x w'=>x=.returned (.tuple #[.slice none 0 0,jU 29])∧Tn w b (dF c h (.int .i64 v::G')) t w') ?_ (fun x w' hx=>.inl ⟨hE,hx⟩)
  rw[if_pos hE]at CP
  clear hE
  go_enter func42,ntmps42
  go_wp2_with fail
  obtain⟨n0,e0⟩:∃n,w.heap.size=n:=⟨_,rfl⟩
  have S1:=S0.out.alloc n0 e0 (Iv .u8 l) 25
  rw[e0]
  obtain⟨W,hW⟩:∃W,w.alloc (.cells (Iv .u8 l) 25)=W:=⟨_,rfl⟩
  rw[hW]at S1⊢
  have S:Hid _:=S1.drew
  have E0:Hid _:=e0
  have hz:=dM
  refine wRt 14 (fun v=>∃m',Sx w b (dF c h (.int .i64 m'::G')) t [eQ n0 l] v) (.held [0,1,2,3,4,5,6,7] (.fork 8 (.held [9,10,11] (.tail 12 (.tail 13 (.last 14 .done)))) 12 (.tail 8 (.held [9,10,11] (.tail 13 (.last 14 .done)))))) dE (by kernel_rfl) ⟨m,S.out⟩ ?_
  obtain⟨y0,ey⟩:∃y,y=W.drew:=⟨_,rfl⟩
  rw[←ey]at S⊢
  clear ey
  refine wTh ?_
  simp only[oS]
  refine aB rfl (.pointer (some ⟨b,0,none⟩)) (fun w'=>by kernel_rfl) ?_
  simp only[pS]
  refine aB rfl (.pointer (some ⟨b,0,none⟩)) (fun w'=>by kernel_rfl) ?_
  simp only[pS]
  refine aB rfl (.pointer (some ⟨b,64,none⟩)) (fun w'=>by kernel_rfl) ?_
  simp only[pS]
  refine wqLr rfl 25 _ rfl n0 rfl _ (Iv .u8 l) _ _ (fun w' hw'=>by obtain⟨m',hx⟩:=hw';exact hx.at (.head _)) underlying25 rfl (aI Hl.out) ?_
  simp only[pS]
  refine aB rfl (.pointer (some ⟨b,0,none⟩)) (fun w'=>by kernel_rfl) ?_
  simp only[pS]
  refine aB rfl (.pointer (some ⟨b,0,none⟩)) (fun w'=>by kernel_rfl) ?_
  simp only[pS]
  refine aB rfl (.pointer (some ⟨b,65,none⟩)) (fun w'=>by kernel_rfl) ?_
  simp only[pS]
  refine wqLm rfl 25 _ rfl b 65 rfl (G.map (Value.int .u8)) _ (fun w' hw'=>by obtain⟨m',hx⟩:=hw';exact afP (by rw[EG.out];exact hx.here) HC.out H32.out HG.out) underlying25 rfl (dK HG.out) ?_
  simp only[pS]
  refine wqN ?_
  apply cT (.tail 13 (.last 14 .done)) (fun g v'=>Sx w b (dF c h (.int .i64 v::G')) t [eQ g (aA 32),eQ n0 l] v')
  intro hZ
  ·refine wTf ?_ ?_
   ·simp only[oS]
    go_wp2_with fail
    refine(CP.out _ S.out.here).mono ?_
    rintro e Z ⟨rfl,hT⟩
    have S2:Hid _:=S.out.turn hT
    go_wp2_with fail
    refine⟨⟨v,S2.out⟩,?_⟩
    refine wTh ?_
    simp only[oS]
    refine aB rfl (.tuple #[.agg (Iv .u8 p),jU 29]) (fun w'=>by kernel_rfl) ?_
    simp only[pS]
    refine aB rfl (.agg (Iv .u8 p)) (fun w'=>by kernel_rfl) ?_
    simp only[pS]
    refine aB rfl (jU 29) (fun w'=>by kernel_rfl) ?_
    simp only[pS]
    refine wqN ?_
    refine wTt ?_
    simp only[oS]
    go_wp2_with fail
    have S3:=S2.out.alloc _ rfl (Iv .u8 (aA 32)) 25
    refine⟨⟨v,S3.tail⟩,?_⟩
    obtain⟨g,eg⟩:∃g,g=Z.heap.size:=⟨_,rfl⟩
    rw[←eg]at S3⊢
    exact hZ.out g _ S3
   ·simp only[oS]
    go_wp2_with fail
    have S3:=S.out.alloc _ rfl (Iv .u8 (aA 32)) 25
    refine⟨⟨m,S3.tail⟩,?_⟩
    obtain⟨g,eg⟩:∃g,g=y0.heap.size:=⟨_,rfl⟩
    rw[←eg]at S3⊢
    clear eg
    have S4:Hid _:=S3
    refine wTt ?_
    simp only[oS]
    go_wp2_with fail
    refine(CP.out _ S4.out.here).mono ?_
    rintro e Z ⟨rfl,hT⟩
    have S5:Hid _:=S4.out.turn hT
    go_wp2_with fail
    refine⟨⟨v,S5.out.tail⟩,?_⟩
    refine wTh ?_
    simp only[oS]
    refine aB rfl (.tuple #[.agg (Iv .u8 p),jU 29]) (fun w'=>by kernel_rfl) ?_
    simp only[pS]
    refine aB rfl (.agg (Iv .u8 p)) (fun w'=>by kernel_rfl) ?_
    simp only[pS]
    refine aB rfl (jU 29) (fun w'=>by kernel_rfl) ?_
    simp only[pS]
    refine wqN ?_
    exact hZ.out g _ S5.out
  intro g v1 H
  have S4:Hid _:=H
  clear H S CP
  refine wTt ?_
  simp only[oS]
  go_wp2_with(refine wpPr rfl 25 _ _ rfl g (Iv .u8 p) rfl rfl _ _ (S4.out.at (.head _)) (aI hpl.out) (kK hpl.out) (aG _ _) ?_)
  intro v2 hP
  have S5:Hid _:=S4.out.put0 hP
  clear hP S4
  go_wp2_with fail
  refine⟨⟨v,S5.out.tail⟩,?_⟩
  refine wTl ?_
  simp only[oS]
  go_wp2_with fail
  refine aQ ?_
  go_wp2_with fail
  exact bodyPost_ret (v:=.tuple #[.slice none 0 0,jU 29]) (by kernel_rfl) rfl ⟨rfl,S5.out.tn⟩
 ·refine Calls.mono (R:=fun x w'=>∃g cap,x=.returned (.tuple #[.slice (some ⟨g,0,none⟩) (n+16) cap,.nilIface])∧w.heap.size≤g∧n+16≤cap∧cap≤9223372036854775807∧Sl w' g 0 (sfX c h p text)∧Tn w b (dF (sfC c p) (dC (h++sfX c h p text)) (.int .i64 v::G')) t w') ?_ (fun x w' hx=>.inr ⟨hE,hx⟩)
  rw[if_neg hE]at CP
  clear hE
  go_enter func42,ntmps42
  go_wp2_with fail
  obtain⟨n0,e0⟩:∃n,w.heap.size=n:=⟨_,rfl⟩
  have S1:=S0.out.alloc n0 e0 (Iv .u8 l) 25
  rw[e0]
  obtain⟨W,hW⟩:∃W,w.alloc (.cells (Iv .u8 l) 25)=W:=⟨_,rfl⟩
  rw[hW]at S1⊢
  have S:Hid _:=S1.drew
  have E0:Hid _:=e0
  clear hW S1 S0 e0
  have hz:=dM
  refine wRt 14 (fun v=>∃m',Sx w b (dF c h (.int .i64 m'::G')) t [eQ n0 l] v) (.held [0,1,2,3,4,5,6,7] (.fork 8 (.held [9,10,11] (.tail 12 (.tail 13 (.last 14 .done)))) 12 (.tail 8 (.held [9,10,11] (.tail 13 (.last 14 .done)))))) dE (by kernel_rfl) ⟨m,S.out⟩ ?_
  obtain⟨y0,ey⟩:∃y,y=W.drew:=⟨_,rfl⟩
  rw[←ey]at S⊢
  clear ey
  refine wTh ?_
  simp only[oS]
  refine aB rfl (.pointer (some ⟨b,0,none⟩)) (fun w'=>by kernel_rfl) ?_
  simp only[pS]
  refine aB rfl (.pointer (some ⟨b,0,none⟩)) (fun w'=>by kernel_rfl) ?_
  simp only[pS]
  refine aB rfl (.pointer (some ⟨b,64,none⟩)) (fun w'=>by kernel_rfl) ?_
  simp only[pS]
  refine wqLr rfl 25 _ rfl n0 rfl _ (Iv .u8 l) _ _ (fun w' hw'=>by obtain⟨m',hx⟩:=hw';exact hx.at (.head _)) underlying25 rfl (aI Hl.out) ?_
  simp only[pS]
  refine aB rfl (.pointer (some ⟨b,0,none⟩)) (fun w'=>by kernel_rfl) ?_
  simp only[pS]
  refine aB rfl (.pointer (some ⟨b,0,none⟩)) (fun w'=>by kernel_rfl) ?_
  simp only[pS]
  refine aB rfl (.pointer (some ⟨b,65,none⟩)) (fun w'=>by kernel_rfl) ?_
  simp only[pS]
  refine wqLm rfl 25 _ rfl b 65 rfl (G.map (Value.int .u8)) _ (fun w' hw'=>by obtain⟨m',hx⟩:=hw';exact afP (by rw[EG.out];exact hx.here) HC.out H32.out HG.out) underlying25 rfl (dK HG.out) ?_
  simp only[pS]
  refine wqN ?_
  apply cT (.tail 13 (.last 14 .done)) (fun g v'=>Sx w b (dF c h (.int .i64 v::G')) t [eQ g (aA 32),eQ n0 l] v')
  intro hZ
  ·refine wTf ?_ ?_
   ·simp only[oS]
    go_wp2_with fail
    refine(CP.out _ S.out.here).mono ?_
    rintro e Z ⟨rfl,hT⟩
    have S2:Hid _:=S.out.turn hT
    clear hT
    go_wp2_with fail
    refine⟨⟨v,S2.out⟩,?_⟩
    refine wTh ?_
    simp only[oS]
    refine aB rfl (.tuple #[.agg (Iv .u8 p),.nilIface]) (fun w'=>by kernel_rfl) ?_
    simp only[pS]
    refine aB rfl (.agg (Iv .u8 p)) (fun w'=>by kernel_rfl) ?_
    simp only[pS]
    refine aB rfl (.nilIface) (fun w'=>by kernel_rfl) ?_
    simp only[pS]
    refine wqN ?_
    refine wTt ?_
    simp only[oS]
    go_wp2_with fail
    have S3:=S2.out.alloc _ rfl (Iv .u8 (aA 32)) 25
    refine⟨⟨v,S3.tail⟩,?_⟩
    obtain⟨g,eg⟩:∃g,g=Z.heap.size:=⟨_,rfl⟩
    rw[←eg]at S3⊢
    clear eg
    exact hZ.out g _ S3
   ·simp only[oS]
    go_wp2_with fail
    have S3:=S.out.alloc _ rfl (Iv .u8 (aA 32)) 25
    refine⟨⟨m,S3.tail⟩,?_⟩
    obtain⟨g,eg⟩:∃g,g=y0.heap.size:=⟨_,rfl⟩
    rw[←eg]at S3⊢
    clear eg
    have S4:Hid _:=S3
    clear S3
    refine wTt ?_
    simp only[oS]
    go_wp2_with fail
    refine(CP.out _ S4.out.here).mono ?_
    rintro e Z ⟨rfl,hT⟩
    have S5:Hid _:=S4.out.turn hT
    clear hT
    go_wp2_with fail
    refine⟨⟨v,S5.out.tail⟩,?_⟩
    refine wTh ?_
    simp only[oS]
    refine aB rfl (.tuple #[.agg (Iv .u8 p),.nilIface]) (fun w'=>by kernel_rfl) ?_
    simp only[pS]
    refine aB rfl (.agg (Iv .u8 p)) (fun w'=>by kernel_rfl) ?_
    simp only[pS]
    refine aB rfl (.nilIface) (fun w'=>by kernel_rfl) ?_
    simp only[pS]
    refine wqN ?_
    exact hZ.out g _ S5.out
  intro g v1 H
  have S4:Hid _:=H
  clear H S CP
  refine wTt ?_
  simp only[oS]
  go_wp2_with(refine wpPr rfl 25 _ _ rfl g (Iv .u8 p) rfl rfl _ _ (S4.out.at (.head _)) (aI hpl.out) (kK hpl.out) (aG _ _) ?_)
  intro v2 hP
  have S5:Hid _:=S4.out.put0 hP
  clear hP S4
  go_wp2_with fail
  refine⟨⟨v,S5.out.tail⟩,?_⟩
  refine wTl ?_
  simp only[oS]
  go_wp2_with fail
  refine aQ ?_
  go_wp2_with fail
  have S6:Hid _:=S5.out.drew
  clear S5
  refine wRt 10 (fun v=>∃cs,Sx w b cs t [eQ g p,eQ n0 l] v) (.held [0,1,2,3,4,5,6,8] (.tail 7 (.tail 9 (.last 10 (.last 11 .done))))) dE (by kernel_rfl) ⟨_,S6.out⟩ ?_
  obtain⟨y6,ey⟩:∃y,y=v2.drew:=⟨_,rfl⟩
  rw[←ey]at S6⊢
  clear ey
  refine wTh ?_
  simp only[oS]
  refine aB rfl (.pointer (some ⟨b,0,none⟩)) (fun w'=>by kernel_rfl) ?_
  simp only[pS]
  refine aB rfl (.pointer (some ⟨b,0,none⟩)) (fun w'=>by kernel_rfl) ?_
  simp only[pS]
  refine aB rfl (.pointer (some ⟨b,0,none⟩)) (fun w'=>by kernel_rfl) ?_
  simp only[pS]
  refine aB rfl (.pointer (some ⟨b,0,none⟩)) (fun w'=>by kernel_rfl) ?_
  simp only[pS]
  refine aB rfl (.pointer (some ⟨b,0,none⟩)) (fun w'=>by kernel_rfl) ?_
  simp only[pS]
  refine aB rfl (.pointer (some ⟨b,0,none⟩)) (fun w'=>by kernel_rfl) ?_
  simp only[pS]
  refine wqLr rfl 25 _ rfl g rfl _ (Iv .u8 p) _ _ (fun w' hw'=>by obtain⟨m',hx⟩:=hw';exact hx.at (.head _)) underlying25 rfl (aI hpl.out) ?_
  simp only[pS]
  refine aB rfl (.slice (some ⟨tg,to_,none⟩) n tc) (fun w'=>by kernel_rfl) ?_
  simp only[pS]
  refine wqN ?_
  refine wTt ?_
  simp only[oS]
  go_wp2_with fail
  refine(wE c h p (.int .i64 v::G') HC.out H32.out hpl.out HCB.out hpb.out b hb3 t y6 S6.out.here (S6.out.tabs HT.out hb3)).mono ?_
  rintro e y7 ⟨rfl,hT⟩
  have S7:Hid _:=S6.out.turn hT
  go_wp2_with fail
  refine⟨⟨_,S7.out⟩,?_⟩
  refine wTt ?_
  simp only[oS]
  go_wp2_with fail
  refine(adC (sfC c p) h (fF (fJ c p) 1) text (.int .i64 v::G') (GK _ _) H32.out (aY _ _) HHB.out (fM _ _) HTB.out n HN.out HTC.out.2.2 tg to_ tc HTC.out.1 HTC.out.2.1 b hb3 t y7 S7.out.here (S7.out.tabs HT.out hb3) (S7.out.sl HS.out.1 HS.out.2)).mono ?_
  rintro e y8 ⟨g8,cap,rfl,hg1,hg2,hg3,hS8,hT⟩
  have S8:Hid _:=S7.out.turn hT
  have G8:Hid (w.heap.size≤g8∧n+16≤cap∧cap≤9223372036854775807):=⟨by have:=S7.out.tn.size;omega,hg2,hg3⟩
  have X8:Hid (Sl y8 g8 0 (sfX c h p text)):=hS8
  clear hT S7 hg1 hg2 hg3 hS8
  go_wp2_with fail
  refine⟨⟨_,S8.out⟩,?_⟩
  refine wTl ?_
  simp only[oS]
  go_wp2_with fail
  refine wTl ?_
  simp only[oS]
  go_wp2_with fail
  refine aQ ?_
  go_wp2_with fail
  exact bodyPost_ret (v:=.tuple #[.slice (some ⟨g8,0,none⟩) (n+16) cap,.nilIface]) (by kernel_rfl) rfl ⟨g8,cap,rfl,G8.out.1,G8.out.2.1,G8.out.2.2,X8.out,S8.out.tn⟩
theorem IP (off:Nat):∀(l:List Value) (k:Nat) (cs:Array Value),(l.zipIdx k).foldl (fun cs (x:Value×Nat)=>cs.setIfInBounds (off+x.2) x.1) cs=MP cs (off+k) l
 | [],k,cs=>rfl
 | v::l,k,cs=>by
   rw[List.zipIdx_cons,List.foldl_cons,IP off l (k+1)]
   rfl
theorem bO {place:Nat→Option (Nat×Nat)} (z:List Value) (i off n:Nat) (v:Value) (vs:List Value) (hv:v.cells=vs.toArray) (hp:place i=some (off,n)) (hn:vs.length=n) (hz:off+n≤z.length) (z':List Value) (hz':z.take off++vs++z.drop (off+vs.length)=z') (rest:List (Nat×Value)):
 Instr.fill place z.toArray ((i,v)::rest)=Instr.fill place z'.toArray rest:=by
 subst hn hz'
 conv=>lhs;unfold Instr.fill
 simp only[hp,hv]
 rw[if_neg (by simp;omega)]
 congr 1
 have:=IP off vs 0 z.toArray
 rw[Nat.add_zero,zU vs z off hz]at this
 rw[←this]
 simp
abbrev dP (l:LI):List Value:=l.map (Value.int .u8)
def rV (s:Int) (z c h:LI) (k m:Int):List Value:=WL s z++(dP c++(dP h++[.int .i64 k,.int .i64 m]))
theorem WU (s:Int) (z c h:LI) (k m:Int) (hz:z.length=140) (hc:c.length=32) (hh:h.length=32):(rV s z c h k m).length=207:=by simp[rV,WL,hz,hc,hh]
theorem akY (ps:List (Nat×Value)):prog.built 57 ps=Instr.fill (fun i=>#[(0,32),(32,32)][i]?) (dP (aA 32)++(dP (aA 32)++[])).toArray ps:=by kernel_rfl
theorem ai2 (ps:List (Nat×Value)):prog.built 62 ps=Instr.fill (fun i=>#[(0,64),(64,1),(65,32)][i]?) (dP (aA 64)++([Value.int .i64 0]++(dP (aA 32)++[]))).toArray ps:=by kernel_rfl
theorem akX (ps:List (Nat×Value)):prog.built 37 ps=Instr.fill (fun i=>#[(0,1),(1,32),(33,48),(81,28),(109,16),(125,16)][i]?) ([Value.int .u32 0]++(dP (aA 32)++(dP (aA 48)++(dP (aA 28)++dP (aA 32))))).toArray ps:=by kernel_rfl
theorem bCr (ps:List (Nat×Value)):prog.built 39 ps=Instr.fill (fun i=>#[(0,141),(141,32),(173,32),(205,1),(206,1)][i]?) (rV 0 (aA 140) (aA 32) (aA 32) 0 0).toArray ps:=by kernel_rfl
theorem tP {α:Type} (p q C:List α) (hp:p.length=q.length):(p++C).take 0++q++(p++C).drop (0+q.length)=q++C:=mH [] p q C 0 rfl hp
theorem tR {α:Type} (A B p q C:List α) (i:Nat) (hA:A.length+B.length=i) (hp:p.length=q.length):(A++(B++(p++C))).take i++q++(A++(B++(p++C))).drop (i+q.length)=A++(B++(q++C)):=by
 have:=mH (A++B) p q C i (by rw[lQ,hA]) hp
 simpa only[List.append_assoc]using this
theorem vZ {α:Type} (A B D p q C:List α) (i:Nat) (hA:A.length+B.length+D.length=i) (hp:p.length=q.length):(A++(B++(D++(p++C)))).take i++q++(A++(B++(D++(p++C)))).drop (i+q.length)=A++(B++(D++(q++C))):=by
 have:=tR (A++B) D p q C i (by rw[lQ,hA]) hp
 simpa only[List.append_assoc]using this
theorem I6 {α:Type} (A B D E p q C:List α) (i:Nat) (hA:A.length+B.length+D.length+E.length=i) (hp:p.length=q.length):(A++(B++(D++(E++(p++C))))).take i++q++(A++(B++(D++(E++(p++C))))).drop (i+q.length)=A++(B++(D++(E++(q++C)))):=by
 have:=vZ (A++B) D E p q C i (by rw[lQ,hA]) hp
 simpa only[List.append_assoc]using this
theorem aL (l:LI):(dP l).length=l.length:=lU _
theorem PP (c h:LI) (hc:c.length=32) (hh:h.length=32):prog.built 57 [(0,.agg (Iv .u8 c)),(1,.agg (Iv .u8 h))]=some (dF c h []).toArray:=by
 refine(akY _).trans ?_
 refine(bO _ 0 0 32 _ (dP c) rfl rfl (by rw[aL,hc]) (by decide) _ (tP (dP (aA 32)) _ _ (by rw[aL,aL,hc];rfl)) _).trans ?_
 refine(bO _ 1 32 32 _ (dP h) rfl rfl (by rw[aL,hh]) (by simp[aA,hc]) _ (mH (dP c) (dP (aA 32)) _ _ 32 (by rw[aL,hc]) (by rw[aL,aL,hh];rfl)) _).trans ?_
 rfl
theorem LL (c h g:LI) (m:Int) (hc:c.length=32) (hh:h.length=32) (hg:g.length=32):prog.built 62 [(0,.agg (dF c h []).toArray),(1,.agg #[Value.int .i64 m]),(2,.agg (Iv .u8 g))]=some (dF c h (.int .i64 m::dP g)).toArray:=by
 have hl:(dF c h []).length=64:=iO c h [] hc hh
 refine(ai2 _).trans ?_
 refine(bO _ 0 0 64 _ (dF c h []) rfl rfl hl (by decide) _ (tP (dP (aA 64)) _ _ (by rw[aL,hl];rfl)) _).trans ?_
 refine(bO _ 1 64 1 _ [Value.int .i64 m] rfl rfl rfl (by simp[hl,aA]) _ (mH (dF c h []) [Value.int .i64 0] _ _ 64 hl rfl) _).trans ?_
 refine(bO _ 2 65 32 _ (dP g) rfl rfl (by rw[aL,hg]) (by simp[hl,aA]) _ (tR (dF c h []) [Value.int .i64 m] (dP (aA 32)) _ _ 65 (by rw[hl];rfl) (by rw[aL,aL,hg];rfl)) _).trans ?_
 simp[dF,Instr.fill]
theorem YW (e x y:LI) (he:e.length=32) (hx:x.length=48) (hy:y.length=28):prog.built 37 [(1,.agg (Iv .u8 e)),(2,.agg (Iv .u8 x)),(3,.agg (Iv .u8 y))]=some (WL 0 (e++(x++(y++aA 32)))).toArray:=by
 refine(akX _).trans ?_
 refine(bO _ 1 1 32 _ (dP e) rfl rfl (by rw[aL,he]) (by decide) _ (mH [Value.int .u32 0] (dP (aA 32)) _ _ 1 rfl (by rw[aL,aL,he];rfl)) _).trans ?_
 refine(bO _ 2 33 48 _ (dP x) rfl rfl (by rw[aL,hx]) (by simp[he,aA]) _ (tR [Value.int .u32 0] (dP e) (dP (aA 48)) _ _ 33 (by rw[aL,he];rfl) (by rw[aL,aL,hx];rfl)) _).trans ?_
 refine(bO _ 3 81 28 _ (dP y) rfl rfl (by rw[aL,hy]) (by simp[he,hx,aA]) _ (vZ [Value.int .u32 0] (dP e) (dP x) (dP (aA 28)) _ _ 81 (by rw[aL,aL,he,hx];rfl) (by rw[aL,aL,hy];rfl)) _).trans ?_
 simp[WL,Instr.fill]
theorem LH:prog.built 37 []=some (WL 0 (aA 140)).toArray:=by kernel_rfl
theorem PN (k m:Int):prog.built 39 [(3,.int .i64 k),(4,.int .i64 m)]=some (rV 0 (aA 140) (aA 32) (aA 32) k m).toArray:=by kernel_rfl
theorem abU (s:Int) (z c h:LI) (k m:Int) (hz:z.length=140) (hc:c.length=32) (hh:h.length=32):prog.built 39 [(0,.agg (WL s z).toArray),(1,.agg (Iv .u8 c)),(2,.agg (Iv .u8 h)),(3,.int .i64 k),(4,.int .i64 m)]=some (rV s z c h k m).toArray:=by
 have hl:(WL s z).length=141:=by rw[kT,hz]
 have h0:(WL 0 (aA 140)).length=141:=rfl
 refine(bCr _).trans ?_
 refine(bO _ 0 0 141 _ (WL s z) rfl rfl hl (by simp[WL,aA]) _ (tP (WL 0 (aA 140)) _ (dP (aA 32)++(dP (aA 32)++[Value.int .i64 0,.int .i64 0])) (by rw[h0,hl])) _).trans ?_
 refine(bO _ 1 141 32 _ (dP c) rfl rfl (by rw[aL,hc]) (by simp[hl,aA]) _ (mH (WL s z) (dP (aA 32)) _ _ 141 hl (by rw[aL,aL,hc];rfl)) _).trans ?_
 refine(bO _ 2 173 32 _ (dP h) rfl rfl (by rw[aL,hh]) (by simp[hl,hc,aA]) _ (tR (WL s z) (dP c) (dP (aA 32)) _ _ 173 (by rw[hl,aL,hc]) (by rw[aL,aL,hh];rfl)) _).trans ?_
 refine(bO _ 3 205 1 _ [Value.int .i64 k] rfl rfl rfl (by simp[hl,hc,hh]) _ (vZ (WL s z) (dP c) (dP h) [Value.int .i64 0] _ [Value.int .i64 0] 205 (by rw[hl,aL,aL,hc,hh]) rfl) _).trans ?_
 refine(bO _ 4 206 1 _ [Value.int .i64 m] rfl rfl rfl (by simp[hl,hc,hh]) _ (I6 (WL s z) (dP c) (dP h) [Value.int .i64 k] [Value.int .i64 0] _ [] 206 (by rw[hl,aL,aL,hc,hh];rfl) rfl) _).trans ?_
 rfl
end Go.Proofs.YtmjccemdldidaaaGreatDoor
