import Derived.Test.YtgcepckaolkeoaaGreatDoorMZ40
namespace Go.Proofs.YtgcepckaolkeoaaGreatDoor
open Go.RowKit Go.Extern.Stop Go.Stop Go.Extern
open Go.Proofs.Tryz
open Go.RowKit
open Go renaming wpList_load_row → wpLr, wpQuiet_nil → wqN
open List renaming length_map → lU, setIfInBounds_toArray → sU
set_option linter.unusedVariables false
theorem aeC:Extern.find f93=some (Extern.ReflectliteValue.method (Extern.ReflectliteValue.valueError "reflectlite.Value.IsNil" 0) Extern.ReflectliteValue.isNil):=by kernel_rfl
theorem aeB:Extern.find f112=some (Extern.ReflectliteValue.method (Extern.ReflectliteValue.valueError "reflectlite.Value.Elem" 0) Extern.ReflectliteValue.elem):=by kernel_rfl
theorem aeD:Extern.find f113=some Extern.ReflectliteValue.set:=by kernel_rfl
theorem xP1 (b:Nat) (w:World):(Extern.ReflectliteValue.parts (.agg #[vE 130,.pointer (some ⟨b,0,none⟩),.int .u64 150])).run prog w=.ok (some (130,⟨b,0,none⟩,150)) w:=by kernel_rfl
theorem xP2 (b:Nat) (w:World):(Extern.ReflectliteValue.parts (.agg #[vE 128,.pointer (some ⟨b,0,none⟩),.int .u64 409])).run prog w=.ok (some (128,⟨b,0,none⟩,409)) w:=by kernel_rfl
theorem xP3 (b:Nat) (w:World):(Extern.ReflectliteValue.parts (.agg #[vE 128,.pointer (some ⟨b,0,none⟩),.int .u64 153])).run prog w=.ok (some (128,⟨b,0,none⟩,153)) w:=by kernel_rfl
theorem PY (b:Nat) (v:Value) (w:World) (h:w.cell? ⟨b,0,none⟩=some v):(loadVar 130 ⟨b,0,none⟩).run prog w=.ok v w:=by
 simp only[loadVar,isAgg,run_underlying underlying130,Sem.run_bind,Sem.run_pure,Result.andThen_ok]
 simp[h]
theorem xMe (z:Sem Value) (f:TypeId→Addr→Nat→Nat→Sem Value) (v:Value):Extern.ReflectliteValue.method z f #[v]=(Extern.ReflectliteValue.parts v>>=fun r=>match r with|none=>z|some (t,a,fl)=>f t a fl (fl%32)):=rfl
theorem xN1 (g b:Nat) (w:World) (h:w.cell? ⟨b,0,none⟩=some (.pointer (some ⟨g,0,none⟩))):(Extern.ReflectliteValue.method (Extern.ReflectliteValue.valueError "reflectlite.Value.IsNil" 0) Extern.ReflectliteValue.isNil #[.agg #[vE 130,.pointer (some ⟨b,0,none⟩),.int .u64 150]]).run prog w=.ok (.bool false) w:=by
 rw[xMe]
 simp only[Sem.run_bind,xP1,Result.andThen_ok,Extern.ReflectliteValue.isNil]
 simp[PY _ _ _ h,Sem.run_bind,Sem.run_pure,Result.andThen_ok]
theorem xM1 (g:Nat) (w:World):(Extern.ReflectliteValue.mk 128 ⟨g,0,none⟩ Extern.ReflectliteValue.flagAddr).run prog w=.ok (.agg #[vE 128,.pointer (some ⟨g,0,none⟩),.int .u64 409]) w:=by kernel_rfl
theorem xM2 (w:World):(Extern.Rtype.elem? 130).run prog w=.ok (some 128) w:=by kernel_rfl
theorem xE1 (g b:Nat) (w:World) (h:w.cell? ⟨b,0,none⟩=some (.pointer (some ⟨g,0,none⟩))):(Extern.ReflectliteValue.method (Extern.ReflectliteValue.valueError "reflectlite.Value.Elem" 0) Extern.ReflectliteValue.elem #[.agg #[vE 130,.pointer (some ⟨b,0,none⟩),.int .u64 150]]).run prog w=.ok (.agg #[vE 128,.pointer (some ⟨g,0,none⟩),.int .u64 409]) w:=by
 rw[xMe]
 simp only[Sem.run_bind,xP1,Result.andThen_ok,Extern.ReflectliteValue.elem]
 simp[PY _ _ _ h,xM2,xM1,Sem.run_bind,Result.andThen_ok]
theorem xD1 (w:World):(Extern.Rtype.directlyAssignable 128 128).run prog w=.ok true w:=by kernel_rfl
theorem xS1 (c:Int) (g b:Nat) (w:World) (h:w.heap[b]? =some (.cells #[.int .i64 c] 128)) (hg:w.heap[g]? =some (.cells #[.int .i64 0] 128)):∃W,(Extern.ReflectliteValue.set #[.agg #[vE 128,.pointer (some ⟨g,0,none⟩),.int .u64 409],.agg #[vE 128,.pointer (some ⟨b,0,none⟩),.int .u64 153]]).run prog w=.ok (.tuple #[]) W∧vD w g #[.int .i64 c] 128 W:=by
 refine⟨w.setRow g #[.int .i64 c],?_,iC hg _⟩
 have hf:w.frozen? ⟨g,0,none⟩=false:=frozen_of_row _ _ _ _ _ hg
 have hc:w.cell? ⟨g,0,none⟩=some (.int .i64 0):=cell_of_row _ _ _ _ _ _ hg
 change Sem.run prog (Extern.ReflectliteValue.parts (.agg #[vE 128,.pointer (some ⟨g,0,none⟩),.int .u64 409])>>=_) w=_
 rw[Sem.run_bind,xP2,Result.andThen_ok]
 change Sem.run prog (Extern.ReflectliteValue.parts (.agg #[vE 128,.pointer (some ⟨b,0,none⟩),.int .u64 153])>>=_) w=_
 rw[Sem.run_bind,xP3,Result.andThen_ok]
 have hl:(loadVar 128 ⟨b,0,none⟩).run prog w=.ok (.agg #[.int .i64 c]) w:=run_loadVar_row w b _ _ _ _ _ h underlying128 rfl (by kernel_rfl)
 have hs:(storeVar 128 ⟨g,0,none⟩ (.agg #[.int .i64 c])).run prog w=.ok () (w.setRow g #[.int .i64 c]):=run_storeVar_row w g _ _ _ _ hg (by kernel_rfl) rfl (by simp[Value.oneCell'])
 change Sem.run prog (loadVar 128 ⟨b,0,none⟩>>=_) w=_
 rw[Sem.run_bind,hl,Result.andThen_ok]
 change Sem.run prog (Extern.Rtype.directlyAssignable 128 128>>=_) w=_
 rw[Sem.run_bind,xD1,Result.andThen_ok]
 change Sem.run prog (storeVar 128 ⟨g,0,none⟩ (.agg #[.int .i64 c])>>=_) w=_
 rw[Sem.run_bind,hs,Result.andThen_ok]
 rfl
theorem dI {P:Program} {ops:Array Oper} {rest:List Oper} {op:Oper} {a:Act} {w:World} {Q:Exit→Act→World→Prop} (hgd:op.guard=none) (ty:TypeId) (x y:Operand) (ho:op.op=.store ty x y)
 (k:IntKind) (g i:Nat) (v:Int) (hx:a.eval x=.pointer (some ⟨g,i,none⟩)) (hy:a.eval y=.int k v) (l:List Value) (t:TypeId) (hg:w.heap[g]? =some (.cells l.toArray t))
 (hs:(P.info? ty).map (·.size)=some 1) (hi:i<l.length) (new:List Value) (hnew:l.set i (.int k v)=new)
 (h:∀W,vD w g new.toArray t W→wpList P ops Q rest (a.put op.dst undef) W):wpList P ops Q (op::rest) a w:=by
 subst hnew
 have hP:=fK hg i (.int k v)
 rw[sU]at hP
 have h2:=h _ hP
 have ht:w.there g i (#[Value.int k v]:Array Value).size:=by
  intro j hj
  simp only[List.size_toArray,List.length_cons,List.length_nil]at hj
  obtain rfl:j=0:=by omega
  refine⟨?_,frozen_of_row w g _ _ t hg⟩
  rw[cell_of_row _ _ _ _ _ _ hg,Nat.add_zero,List.getElem?_toArray,List.getElem?_eq_getElem hi]
  rfl
 have e:(storeVar ty ⟨g,i,none⟩ (.int k v)).run P w=.ok () (w.setCell ⟨g,i,none⟩ (.int k v)):=run_storeVar_mid w g i ty #[.int k v] ht hs (by simp[Value.oneCell'])
 refine wpList_plain hgd fun K hK=>?_
 unfold Oper.wp execOp
 simp only[ho,hx,hy,Instr.storeAt,Instr.sureAddr,Sem.run_bind,Sem.run_pure,Result.andThen_ok,e]
 exact hK _ _ h2
theorem QE {c h:List Int} {u v:Value} {r:List Value} (hc:c.length=32) (hh:h.length=32):(eF c h (u::r)).set 64 v=eF c h (v::r):=by
 unfold eF
 rw[List.set_append_right _ _ (by rw[lU,hc];decide),lU,hc,List.set_append_right _ _ (by rw[lU,hh];decide),lU,hh]
 rfl
theorem OO {W:World} {c h:List Int} {v:Value} {r:List Value} {b:Nat} {t:TypeId} {fr:Nat×Nat} (hr:W.heap[b]? =some (.cells (eF c h (v::r)).toArray t fr)) (hc:c.length=32) (hh:h.length=32):W.cell? ⟨b,64,none⟩=some v:=by
 rw[cell_of_row _ _ _ _ _ _ hr,List.getElem?_toArray]
 unfold eF
 rw[List.getElem?_append_right (by rw[lU,hc];decide),lU,hc,List.getElem?_append_right (by rw[lU,hh];decide),lU,hh]
 rfl
theorem wM:(prog.info? 3).map (·.size)=some 1:=by kernel_rfl
theorem LX:prog.plainKey 5=true:=by kernel_rfl
theorem KQ (d:Nat) (A M:List Int) (w:World):∀is:List Nat,(∀i∈is,i<A.length∧i<M.length)→
 (Op.eqItems (d+1) 5 1 (Iv .u8 A) (Iv .u8 M) is).run prog w=.ok (is.all fun i=>A.getD i 0==M.getD i 0) w
 | [],_=>by simp[Op.eqItems]
 | i::is,h=>by
   obtain⟨h1,h2⟩:=h i (by simp)
   have ih:=KQ d A M w is (fun j hj=>h j (by simp[hj]))
   have p1:=run_part_plain (P:=prog) w LX (cT .u8 A i h1)
   have p2:=run_part_plain (P:=prog) w LX (cT .u8 M i h2)
   rw[show A[i]=A.getD i 0 by simp[List.getD_eq_getElem?_getD,h1]]at p1
   rw[show M[i]=M.getD i 0 by simp[List.getD_eq_getElem?_getD,h2]]at p2
   simp only[Op.eqItems,Nat.mul_one,Sem.run_bind,p1,p2,Result.andThen_ok,run_equalIn_int w d 5 .u8 .u8 _ _ underlying5,List.all_cons]
   cases A.getD i 0==M.getD i 0<;>simp only[Bool.not_false,Bool.not_true,Bool.false_eq_true,if_true,if_false,Bool.false_and,Bool.true_and,Sem.run_pure]
   exact ih
set_option maxRecDepth 10000 in
theorem GF (A M:List Int) (hA:A.length=32) (hM:M.length=32) (w:World):(Op.equalIn 10000 22 (.agg (Iv .u8 A)) (.agg (Iv .u8 M))).run prog w=.ok (decide (A=M)) w:=by
 obtain⟨i,hi⟩:=info_of_underlying underlying5
 have hc:prog.cellsOf 5=1:=by kernel_rfl
 rw[run_equalIn_array w 9999 _ _ underlying22 hi,hc]
 rw[KQ 9998 A M w _ (fun i hi=>by simp at hi;omega)]
 congr 1
 rw[Bool.eq_iff_iff,List.all_eq_true]
 simp only[List.mem_range,beq_iff_eq,decide_eq_true_eq]
 constructor
 ·intro h
  apply List.ext_getElem (by omega)
  intro i h1 h2
  have:=h i (by omega)
  simpa[List.getD_eq_getElem?_getD,h1,h2]using this
 ·rintro rfl i _
  rfl
theorem q7:prog.eqGuardType prog.depth 22=false:=by kernel_rfl
theorem lE {P:Program} {ops:Array Oper} {rest:List Oper} {o:Oper} {a:Act} {w:World} {Q:Exit→Act→World→Prop} (hgd:o.guard=none) (t t':TypeId) (x y:Operand) (ho:o.op=.binOp .eql t x y t') (xs ys:Array Value) (hx:a.eval x=.agg xs) (hy:a.eval y=.agg ys) (r:Bool)
 (he:∀w,(Op.equalIn 10000 t (.agg xs) (.agg ys)).run P w=.ok r w) (hm:P.eqGuardType P.depth t=false)
 (h:wpList P ops Q rest (a.put o.dst (.bool r)) w):wpList P ops Q (o::rest) a w:=by
 refine wpList_plain hgd fun K hK=>?_
 have e1:(execOp a.eval o).run P w=.ok (.value (.bool r)) w:=by
  unfold execOp
  simp only[ho,hx,hy,Sem.run_bind,run_eqGuard_agg w .eql t x y xs ys hm,run_eql_struct,he w,Result.andThen_ok,Sem.run_pure]
 unfold Oper.wp
 rw[e1]
 exact hK _ _ h
abbrev aJ (g:Nat) (l:List Int):Nat×Array Value×TypeId:=(g,Iv .u8 l,22)
theorem sS {l:List Int} (h:l.length=32):(Iv .u8 (aA 32)).size=(Iv .u8 l).size:=by rw[aC,aC,h];rfl
set_option maxRecDepth 10000 in
set_option maxHeartbeats 2000000 in
theorem FH (c h l:List Int) (m:Int) (r:List Value) (hc:c.length=32) (hh:h.length=32) (hl:l.length=32) (hlb:aE l) (b:Nat) (t:TypeId) (w:World) (hr:w.heap[b]? =some (.cells (eF c h (.int .i64 m::r)).toArray t)):
 Calls prog 63 #[.pointer (some ⟨b,64,none⟩),.agg (Iv .u8 l)] w fun x w'=>x=.returned (.agg (Iv .u8 (xD l pH)))∧Tn w b (eF c h (.int .i64 (IntKind.i64.wrap (m+1))::r)) t w':=by
 have hz:=fN
 have CS:Hid (∀W,_):=fun W=>xW l m hl hlb W
 obtain⟨A,eA⟩:∃A,xD l pH=A:=⟨_,rfl⟩
 have hA:Hid (A.length=32):=by show _=_;rw[←eA];exact iF _ _
 rw[eA]at CS⊢
 clear eA
 obtain⟨v,ev⟩:∃x,IntKind.i64.wrap (m+1)=x:=⟨_,rfl⟩
 rw[ev]at CS⊢
 clear ev
 have HC:Hid _:=hc
 have H32:Hid _:=hh
 have Hl:Hid _:=hl
 have S0:Hid _:=Sx.start hr
 clear hc hh hl hlb hr
 go_enter func63,ntmps63
 go_wp2_with fail
 obtain⟨n0,e0⟩:∃n,w.heap.size=n:=⟨_,rfl⟩
 have S1:=(S0.out.alloc n0 e0 (Iv .u8 l) 22).alloc (n0+1) (by simp[e0]) (Iv .u8 (aA 32)) 22
 rw[e0]
 obtain⟨W,hW⟩:∃W,(w.alloc (.cells (Iv .u8 l) 22)).alloc (.cells (Iv .u8 (aA 32)) 22)=W:=⟨_,rfl⟩
 rw[hW]at S1⊢
 have S:Hid _:=S1.drew
 clear hW S1 S0 e0
 refine wRt 11 (fun w'=>∃x:Wp (fun v=>Sx w b (eF c h (.int .i64 m::r)) t [aJ (n0+1) (aA 32),aJ n0 l] v),w'=x.w) (.held [0,1] (.fork 2 (.held [3,4] (.fork 5 (.held [6,7,8] (.tail 9 (.tail 10 (.last 11 .done)))) 9 (.tail 5 (.held [6,7,8] (.tail 10 (.last 11 .done)))))) 9 (.tail 2 (.held [3,4] (.tail 5 (.held [6,7,8] (.tail 10 (.last 11 .done)))))))) fJ (by kernel_rfl) ⟨⟨_,S.out⟩,rfl⟩ ?_
 obtain⟨y0,ey⟩:∃y,y=W.drew:=⟨_,rfl⟩
 rw[←ey]at S⊢
 clear ey
 refine wTh ?_
 simp only[oS]
 refine wqLr rfl 22 _ rfl n0 rfl _ (Iv .u8 l) _ _ (fun w' hw'=>by obtain⟨x,rfl⟩:=hw';exact x.p.at (.tail _ (.head _))) underlying22 rfl (aM Hl.out) ?_
 simp only[pS]
 refine aD rfl (.pointer (some ⟨b,64,none⟩)) (fun w'=>by kernel_rfl) ?_
 simp only[pS]
 refine wqN ?_
 apply aW (.tail 10 (.last 11 .done)) (fun g v=>Sx w b (eF c h (.int .i64 m::r)) t [aJ g (aA 32),aJ (n0+1) (aA 32),aJ n0 l] v)
 intro hZ
 apply aW (.tail 5 (.held [6,7,8] (.tail 10 (.last 11 .done)))) (fun g v=>Sx w b (eF c h (.int .i64 m::r)) t [aJ g (aA 32),aJ (n0+1) (aA 32),aJ n0 l] v)
 intro hY
 refine wTf ?_ ?_
 ·simp only[oS]
  go_wp2_with fail
  refine⟨⟨⟨_,S.out⟩,rfl⟩,?_⟩
  refine wTh ?_
  simp only[oS]
  refine aD rfl (.pointer (some ⟨b,64,none⟩)) (fun w'=>by kernel_rfl) ?_
  simp only[pS]
  refine eS rfl (.int .i64 m) (fun w' hw'=>by obtain⟨x,rfl⟩:=hw';exact lV 3 _ rfl ⟨b,64,none⟩ rfl .i64 underlying3 _ _ (OO x.p.here HC.out H32.out)) ?_
  simp only[pS]
  refine wqN ?_
  refine wTf ?_ ?_
  ·simp only[oS]
   go_wp2_with fail
   refine(CS.out _).mono ?_
   rintro e Z ⟨rfl,hb⟩
   have S2:Hid _:=S.out.later hb
   clear hb
   go_wp2_with fail
   refine⟨⟨⟨_,S2.out⟩,rfl⟩,?_⟩
   refine wTh ?_
   simp only[oS]
   refine aD rfl (.tuple #[.agg (Iv .u8 A),.int .i64 v]) (fun w'=>by kernel_rfl) ?_
   simp only[pS]
   refine aD rfl (.agg (Iv .u8 A)) (fun w'=>by kernel_rfl) ?_
   simp only[pS]
   refine aD rfl (.int .i64 v) (fun w'=>by kernel_rfl) ?_
   simp only[pS]
   refine wqN ?_
   refine wTt ?_
   simp only[oS]
   go_wp2_with fail
   have S3:=S2.out.alloc _ rfl (Iv .u8 (aA 32)) 22
   refine⟨⟨⟨_,S3.tail⟩,rfl⟩,?_⟩
   obtain⟨g,eg⟩:∃g,g=Z.heap.size:=⟨_,rfl⟩
   rw[←eg]at S3⊢
   clear eg
   exact hZ.out g _ S3
  ·simp only[oS]
   go_wp2_with fail
   have S3:=S.out.alloc _ rfl (Iv .u8 (aA 32)) 22
   refine⟨⟨⟨_,S3.tail⟩,rfl⟩,?_⟩
   obtain⟨g,eg⟩:∃g,g=y0.heap.size:=⟨_,rfl⟩
   rw[←eg]at S3⊢
   clear eg
   exact hY.out g _ S3
 ·simp only[oS]
  go_wp2_with fail
  have S3:=S.out.alloc _ rfl (Iv .u8 (aA 32)) 22
  refine⟨⟨⟨_,S3.tail⟩,rfl⟩,?_⟩
  obtain⟨g,eg⟩:∃g,g=y0.heap.size:=⟨_,rfl⟩
  rw[←eg]at S3⊢
  clear eg
  have S4:Hid _:=S3
  clear S3
  refine wTt ?_
  simp only[oS]
  go_wp2_with fail
  refine⟨⟨⟨_,S4.out.tail⟩,rfl⟩,?_⟩
  refine wTh ?_
  simp only[oS]
  refine aD rfl (.pointer (some ⟨b,64,none⟩)) (fun w'=>by kernel_rfl) ?_
  simp only[pS]
  refine eS rfl (.int .i64 m) (fun w' hw'=>by obtain⟨x,rfl⟩:=hw';exact lV 3 _ rfl ⟨b,64,none⟩ rfl .i64 underlying3 _ _ (OO x.p.here HC.out H32.out)) ?_
  simp only[pS]
  refine wqN ?_
  exact hY.out g _ S4.out
 ·intro g v1 H
  have S4:Hid _:=H
  clear H S
  refine wTt ?_
  simp only[oS]
  go_wp2_with fail
  refine(CS.out _).mono ?_
  rintro e Z ⟨rfl,hb⟩
  have S5:Hid _:=S4.out.later hb
  clear hb
  go_wp2_with fail
  refine⟨⟨⟨_,S5.out.tail⟩,rfl⟩,?_⟩
  refine wTh ?_
  simp only[oS]
  refine aD rfl (.tuple #[.agg (Iv .u8 A),.int .i64 v]) (fun w'=>by kernel_rfl) ?_
  simp only[pS]
  refine aD rfl (.agg (Iv .u8 A)) (fun w'=>by kernel_rfl) ?_
  simp only[pS]
  refine aD rfl (.int .i64 v) (fun w'=>by kernel_rfl) ?_
  simp only[pS]
  refine wqN ?_
  exact hZ.out g _ S5.out
 intro g v1 H
 have S4:Hid _:=H
 clear H S CS
 refine wTt ?_
 simp only[oS]
 go_wp2_with(refine wpPr rfl 22 _ _ rfl g (Iv .u8 A) rfl rfl _ _ (S4.out.at (.head _)) (aM hA.out) (sS hA.out) (aH _ _) ?_)
 intro v2 hP
 have S5:Hid _:=S4.out.put0 hP
 clear hP S4
 go_wp2_with fail
 refine⟨⟨⟨_,S5.out.tail⟩,rfl⟩,?_⟩
 refine wTl ?_
 simp only[oS]
 go_wp2_with fail
 refine bN ?_
 have hfit:Hid (64<(eF c h (.int .i64 m::r)).length):=by show _<_;rw[iZ _ _ _ HC.out H32.out,List.length_cons];omega
 go_wp2_with(refine dI rfl 3 _ _ rfl .i64 b 64 v rfl rfl (eF c h (.int .i64 m::r)) t S5.out.here wM hfit.out _ (QE HC.out H32.out) ?_)
 intro v3 hP
 have S6:Hid _:=S5.out.putR hP
 clear hP S5
 go_wp2_with(first
  | refine wpLr rfl 22 _ rfl g rfl _ (Iv .u8 A) _ _ (S6.out.at (.head _)) underlying22 rfl (aM hA.out) ?_
  | refine wpPr rfl 22 _ _ rfl (n0+1) (Iv .u8 A) rfl rfl _ _ (S6.out.at (.tail _ (.head _))) (aM hA.out) (sS hA.out) (aH _ _) ?_)
 intro v4 hP
 have S7:Hid _:=Sx.putK (R1:=[aJ g A]) S6.out hP
 clear hP S6
 go_wp2_with fail
 exact bodyPost_ret (v:=.agg (Iv .u8 A)) (results_cell_row rfl _ _ _ _ (Iv .u8 A) _ _ rfl (S7.out.at (.tail _ (.head _))) underlying22 rfl (aM hA.out)) rfl ⟨rfl,S7.out.tn⟩
set_option maxRecDepth 10000 in
set_option maxHeartbeats 2000000 in
theorem L5 (c h l p:List Int) (m:Int) (r:List Value) (hc:c.length=32) (hh:h.length=32) (hl:l.length=32) (hlb:aE l) (hp:p.length=32) (hpb:aE p) (b:Nat) (t:TypeId) (w:World) (hr:w.heap[b]? =some (.cells (eF c h (.int .i64 m::r)).toArray t)):
 Calls prog 88 #[.pointer (some ⟨b,64,none⟩),.agg (Iv .u8 l),.agg (Iv .u8 p)] w fun x w'=>x=.returned (.tuple #[.agg (Iv .u8 (xD l p)),if xD l p=aA 32 then s7 29 else .nilIface])∧Tn w b (eF c h (.int .i64 (IntKind.i64.wrap (m+1))::r)) t w':=by
 have hz:=fN
 have CS:Hid (∀W,_):=fun W=>pC l p m hl hp hlb hpb W
 obtain⟨A,eA⟩:∃A,xD l p=A:=⟨_,rfl⟩
 have hA:Hid (A.length=32):=by show _=_;rw[←eA];exact iF _ _
 rw[eA]at CS⊢
 clear eA
 obtain⟨v,ev⟩:∃x,IntKind.i64.wrap (m+1)=x:=⟨_,rfl⟩
 rw[ev]at CS⊢
 clear ev
 obtain⟨er,ee⟩:∃x,(if A=aA 32 then s7 29 else .nilIface)=x:=⟨_,rfl⟩
 rw[ee]
 have EE:Hid _:=ee
 clear ee
 have HC:Hid _:=hc
 have H32:Hid _:=hh
 have Hl:Hid _:=hl
 have Hp:Hid _:=hp
 have S0:Hid _:=Sx.start hr
 clear hc hh hl hlb hr hp hpb
 go_enter func88,ntmps88
 go_wp2_with fail
 obtain⟨n0,e0⟩:∃n,w.heap.size=n:=⟨_,rfl⟩
 have S1:=((S0.out.alloc n0 e0 (Iv .u8 l) 22).alloc (n0+1) (by simp[e0]) (Iv .u8 p) 22).alloc (n0+1+1) (by simp[e0]) (Iv .u8 (aA 32)) 22
 rw[e0]
 obtain⟨W,hW⟩:∃W,((w.alloc (.cells (Iv .u8 l) 22)).alloc (.cells (Iv .u8 p) 22)).alloc (.cells (Iv .u8 (aA 32)) 22)=W:=⟨_,rfl⟩
 rw[hW]at S1⊢
 have S:Hid _:=S1.drew
 clear hW S1 S0 e0
 refine wRt 12 (fun w'=>∃x:Wp (fun v=>Sx w b (eF c h (.int .i64 m::r)) t [aJ (n0+1+1) (aA 32),aJ (n0+1) p,aJ n0 l] v),w'=x.w) (.held [0,1,2] (.fork 3 (.held [4,5] (.fork 6 (.held [7,8,9] (.tail 10 (.tail 11 (.last 12 .done)))) 10 (.tail 6 (.held [7,8,9] (.tail 11 (.last 12 .done)))))) 10 (.tail 3 (.held [4,5] (.tail 6 (.held [7,8,9] (.tail 11 (.last 12 .done)))))))) fJ (by kernel_rfl) ⟨⟨_,S.out⟩,rfl⟩ ?_
 obtain⟨y0,ey⟩:∃y,y=W.drew:=⟨_,rfl⟩
 rw[←ey]at S⊢
 clear ey
 refine wTh ?_
 simp only[oS]
 refine wqLr rfl 22 _ rfl n0 rfl _ (Iv .u8 l) _ _ (fun w' hw'=>by obtain⟨x,rfl⟩:=hw';exact x.p.at (.tail _ (.tail _ (.head _)))) underlying22 rfl (aM Hl.out) ?_
 simp only[pS]
 refine wqLr rfl 22 _ rfl (n0+1) rfl _ (Iv .u8 p) _ _ (fun w' hw'=>by obtain⟨x,rfl⟩:=hw';exact x.p.at (.tail _ (.head _))) underlying22 rfl (aM Hp.out) ?_
 simp only[pS]
 refine aD rfl (.pointer (some ⟨b,64,none⟩)) (fun w'=>by kernel_rfl) ?_
 simp only[pS]
 refine wqN ?_
 apply aW (.tail 11 (.last 12 .done)) (fun g v=>Sx w b (eF c h (.int .i64 m::r)) t [aJ g (aA 32),aJ (n0+1+1) (aA 32),aJ (n0+1) p,aJ n0 l] v)
 intro hZ
 apply aW (.tail 6 (.held [7,8,9] (.tail 11 (.last 12 .done)))) (fun g v=>Sx w b (eF c h (.int .i64 m::r)) t [aJ g (aA 32),aJ (n0+1+1) (aA 32),aJ (n0+1) p,aJ n0 l] v)
 intro hY
 refine wTf ?_ ?_
 ·simp only[oS]
  go_wp2_with fail
  refine⟨⟨⟨_,S.out⟩,rfl⟩,?_⟩
  refine wTh ?_
  simp only[oS]
  refine aD rfl (.pointer (some ⟨b,64,none⟩)) (fun w'=>by kernel_rfl) ?_
  simp only[pS]
  refine eS rfl (.int .i64 m) (fun w' hw'=>by obtain⟨x,rfl⟩:=hw';exact lV 3 _ rfl ⟨b,64,none⟩ rfl .i64 underlying3 _ _ (OO x.p.here HC.out H32.out)) ?_
  simp only[pS]
  refine wqN ?_
  refine wTf ?_ ?_
  ·simp only[oS]
   go_wp2_with fail
   refine(CS.out _).mono ?_
   rintro e Z ⟨rfl,hb⟩
   have S2:Hid _:=S.out.later hb
   clear hb
   go_wp2_with fail
   refine⟨⟨⟨_,S2.out⟩,rfl⟩,?_⟩
   refine wTh ?_
   simp only[oS]
   refine aD rfl (.tuple #[.agg (Iv .u8 A),.int .i64 v]) (fun w'=>by kernel_rfl) ?_
   simp only[pS]
   refine aD rfl (.agg (Iv .u8 A)) (fun w'=>by kernel_rfl) ?_
   simp only[pS]
   refine aD rfl (.int .i64 v) (fun w'=>by kernel_rfl) ?_
   simp only[pS]
   refine wqN ?_
   refine wTt ?_
   simp only[oS]
   go_wp2_with fail
   have S3:=S2.out.alloc _ rfl (Iv .u8 (aA 32)) 22
   refine⟨⟨⟨_,S3.tail⟩,rfl⟩,?_⟩
   obtain⟨g,eg⟩:∃g,g=Z.heap.size:=⟨_,rfl⟩
   rw[←eg]at S3⊢
   clear eg
   exact hZ.out g _ S3
  ·simp only[oS]
   go_wp2_with fail
   have S3:=S.out.alloc _ rfl (Iv .u8 (aA 32)) 22
   refine⟨⟨⟨_,S3.tail⟩,rfl⟩,?_⟩
   obtain⟨g,eg⟩:∃g,g=y0.heap.size:=⟨_,rfl⟩
   rw[←eg]at S3⊢
   clear eg
   exact hY.out g _ S3
 ·simp only[oS]
  go_wp2_with fail
  have S3:=S.out.alloc _ rfl (Iv .u8 (aA 32)) 22
  refine⟨⟨⟨_,S3.tail⟩,rfl⟩,?_⟩
  obtain⟨g,eg⟩:∃g,g=y0.heap.size:=⟨_,rfl⟩
  rw[←eg]at S3⊢
  clear eg
  have S4:Hid _:=S3
  clear S3
  refine wTt ?_
  simp only[oS]
  go_wp2_with fail
  refine⟨⟨⟨_,S4.out.tail⟩,rfl⟩,?_⟩
  refine wTh ?_
  simp only[oS]
  refine aD rfl (.pointer (some ⟨b,64,none⟩)) (fun w'=>by kernel_rfl) ?_
  simp only[pS]
  refine eS rfl (.int .i64 m) (fun w' hw'=>by obtain⟨x,rfl⟩:=hw';exact lV 3 _ rfl ⟨b,64,none⟩ rfl .i64 underlying3 _ _ (OO x.p.here HC.out H32.out)) ?_
  simp only[pS]
  refine wqN ?_
  exact hY.out g _ S4.out
 ·intro g v1 H
  have S4:Hid _:=H
  clear H S
  refine wTt ?_
  simp only[oS]
  go_wp2_with fail
  refine(CS.out _).mono ?_
  rintro e Z ⟨rfl,hb⟩
  have S5:Hid _:=S4.out.later hb
  clear hb
  go_wp2_with fail
  refine⟨⟨⟨_,S5.out.tail⟩,rfl⟩,?_⟩
  refine wTh ?_
  simp only[oS]
  refine aD rfl (.tuple #[.agg (Iv .u8 A),.int .i64 v]) (fun w'=>by kernel_rfl) ?_
  simp only[pS]
  refine aD rfl (.agg (Iv .u8 A)) (fun w'=>by kernel_rfl) ?_
  simp only[pS]
  refine aD rfl (.int .i64 v) (fun w'=>by kernel_rfl) ?_
  simp only[pS]
  refine wqN ?_
  exact hZ.out g _ S5.out
 intro g v1 H
 have S4:Hid _:=H
 clear H S CS
 refine wTt ?_
 simp only[oS]
 go_wp2_with(refine wpPr rfl 22 _ _ rfl g (Iv .u8 A) rfl rfl _ _ (S4.out.at (.head _)) (aM hA.out) (sS hA.out) (aH _ _) ?_)
 intro v2 hP
 have S5:Hid _:=S4.out.put0 hP
 clear hP S4
 go_wp2_with fail
 refine⟨⟨⟨_,S5.out.tail⟩,rfl⟩,?_⟩
 refine wTl ?_
 simp only[oS]
 go_wp2_with fail
 refine bN ?_
 have hfit:Hid (64<(eF c h (.int .i64 m::r)).length):=by show _<_;rw[iZ _ _ _ HC.out H32.out,List.length_cons];omega
 go_wp2_with(refine dI rfl 3 _ _ rfl .i64 b 64 v rfl rfl (eF c h (.int .i64 m::r)) t S5.out.here wM hfit.out _ (QE HC.out H32.out) ?_)
 intro v3 hP
 have S6:Hid _:=S5.out.putR hP
 clear hP S5
 have hbz:Hid (prog.built 22 []=some (Iv .u8 (aA 32))):=by show _=_;kernel_rfl
 by_cases hE:A=aA 32
 ·have EE2:Hid (er=s7 29):=by have h:=EE.out;rw[if_pos hE]at h;exact h.symm
  have he:Hid (∀w,(Op.equalIn 10000 22 (.agg (Iv .u8 A)) (.agg (Iv .u8 (aA 32)))).run prog w=.ok true w):=fun w=>by rw[GF A (aA 32) hA.out rfl w,decide_eq_true hE]
  clear hE
  go_wp2_with(first
   | refine wpLr rfl 22 _ rfl g rfl _ (Iv .u8 A) _ _ (S6.out.at (.head _)) underlying22 rfl (aM hA.out) ?_
   | refine bA rfl 22 _ rfl (Iv .u8 (aA 32)) _ (by kernel_rfl) hbz.out ?_
   | refine lE rfl 22 22 _ _ rfl (Iv .u8 A) (Iv .u8 (aA 32)) rfl rfl _ he.out q7 ?_
   | refine wpPr rfl 22 _ _ rfl (n0+1+1) (Iv .u8 A) rfl rfl _ _ (S6.out.at (.tail _ (.head _))) (aM hA.out) (sS hA.out) (aH _ _) ?_)
  intro v4 hP
  have S7:Hid _:=Sx.putK (R1:=[aJ g A]) S6.out hP
  clear hP S6
  go_wp2_with fail
  exact bodyPost_ret (v:=.tuple #[.agg (Iv .u8 A),s7 29]) (dK rfl _ _ _ _ (Iv .u8 A) _ _ rfl rfl (S7.out.at (.tail _ (.head _))) underlying22 rfl (aM hA.out)) rfl ⟨by rw[EE2.out],S7.out.tn⟩
 ·have EE2:Hid (er=.nilIface):=by have h:=EE.out;rw[if_neg hE]at h;exact h.symm
  have he:Hid (∀w,(Op.equalIn 10000 22 (.agg (Iv .u8 A)) (.agg (Iv .u8 (aA 32)))).run prog w=.ok false w):=fun w=>by rw[GF A (aA 32) hA.out rfl w,decide_eq_false hE]
  clear hE
  go_wp2_with(first
   | refine wpLr rfl 22 _ rfl g rfl _ (Iv .u8 A) _ _ (S6.out.at (.head _)) underlying22 rfl (aM hA.out) ?_
   | refine bA rfl 22 _ rfl (Iv .u8 (aA 32)) _ (by kernel_rfl) hbz.out ?_
   | refine lE rfl 22 22 _ _ rfl (Iv .u8 A) (Iv .u8 (aA 32)) rfl rfl _ he.out q7 ?_
   | refine wpPr rfl 22 _ _ rfl (n0+1+1) (Iv .u8 A) rfl rfl _ _ (S6.out.at (.tail _ (.head _))) (aM hA.out) (sS hA.out) (aH _ _) ?_)
  intro v4 hP
  have S7:Hid _:=Sx.putK (R1:=[aJ g A]) S6.out hP
  clear hP S6
  go_wp2_with fail
  exact bodyPost_ret (v:=.tuple #[.agg (Iv .u8 A),.nilIface]) (dK rfl _ _ _ _ (Iv .u8 A) _ _ rfl rfl (S7.out.at (.tail _ (.head _))) underlying22 rfl (aM hA.out)) rfl ⟨by rw[EE2.out],S7.out.tn⟩
end Go.Proofs.YtgcepckaolkeoaaGreatDoor
