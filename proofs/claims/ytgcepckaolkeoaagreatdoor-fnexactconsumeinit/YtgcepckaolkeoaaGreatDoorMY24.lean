import Derived.Test.YtgcepckaolkeoaaGreatDoorMY23
import Derived.Laws.AppendOwn
namespace Go.Proofs.YtgcepckaolkeoaaGreatDoor
open Go.RowKit
open Go.Proofs.Tryz
open Go renaming heap_alloc_new → hAN, heap_alloc_old → hAO, wpList_load_row → wpLr, wpQuiet_nil → wqN
open Go.World renaming block_lt_of_cell? → wJ, size_alloc → wU
open List renaming length_append → lQ, length_map → lU, nil_append → nA, setIfInBounds_toArray → sU
open Nat renaming le_refl → nQ, lt_of_lt_of_le → nJ
set_option linter.unusedVariables false
theorem vJ {P:Program} {ops:Array Oper} {rest:List Oper} {op:Oper} {a:Act} {w:World} {Q:Exit→Act→World→Prop} (hgd:op.guard=none) (ty:TypeId) (x y:Operand) (ho:op.op=.store ty x y)
 (k:IntKind) (g i:Nat) (v:Int) (hx:a.eval x=.pointer (some ⟨g,i,none⟩)) (hy:a.eval y=.int k v) (l:List Value) (t:TypeId) (hg:w.heap[g]? =some (.cells l.toArray t))
 (hs:(P.info? ty).map (·.size)=some 1) (hi:i<l.length) (new:List Value) (hnew:l.set i (.int k v)=new)
 (h:∀W,wH w g new.toArray t W→wpList P ops Q rest (a.put op.dst undef) W):wpList P ops Q (op::rest) a w:=by
 subst hnew
 have hP:=fP hg i (.int k v)
 rw[sU]at hP
 have h2:=h _ hP
 have ht:w.there g i (#[Value.int k v]:Array Value).size:=by
  intro j hj
  simp only[List.size_toArray,List.length_cons,List.length_nil]at hj
  obtain rfl:j=0:=by omega
  refine⟨?_,frozen_of_row w g _ _ t hg⟩
  rw[cell_of_row _ _ _ _ _ _ hg,Nat.add_zero,List.getElem?_toArray,List.getElem?_eq_getElem hi]
  rfl
 have e:(storeVar ty ⟨g,i,none⟩ (.int k v)).run P w=.ok () (w.setCell ⟨g,i,none⟩ (.int k v)):=run_storeVar_mid w g i ty #[.int k v] ht hs (by simp[Value.oneCell'])
 refine wpList_plain hgd fun K hK=>?_
 unfold Oper.wp execOp
 simp only[ho,hx,hy,Instr.storeAt,Instr.sureAddr,Sem.run_bind,Sem.run_pure,Result.andThen_ok,e]
 exact hK _ _ h2
theorem abB {c h:List Int} {u v:Value} {r:List Value} (hc:c.length=32) (hh:h.length=32):(fA c h (u::r)).set 64 v=fA c h (v::r):=by
 unfold fA
 rw[List.set_append_right _ _ (by rw[lU,hc];decide),lU,hc,List.set_append_right _ _ (by rw[lU,hh];decide),lU,hh]
 rfl
theorem abC {W:World} {c h:List Int} {v:Value} {r:List Value} {b:Nat} {t:TypeId} {fr:Nat×Nat} (hr:W.heap[b]? =some (.cells (fA c h (v::r)).toArray t fr)) (hc:c.length=32) (hh:h.length=32):W.cell? ⟨b,64,none⟩=some v:=by
 rw[cell_of_row _ _ _ _ _ _ hr,List.getElem?_toArray]
 unfold fA
 rw[List.getElem?_append_right (by rw[lU,hc];decide),lU,hc,List.getElem?_append_right (by rw[lU,hh];decide),lU,hh]
 rfl
theorem acI:(prog.info? 3).map (·.size)=some 1:=by kernel_rfl
theorem NP:prog.plainKey 5=true:=by kernel_rfl
theorem MF (d:Nat) (A M:List Int) (w:World):∀is:List Nat,(∀i∈is,i<A.length∧i<M.length)→
 (Op.eqItems (d+1) 5 1 (Iv .u8 A) (Iv .u8 M) is).run prog w=.ok (is.all fun i=>A.getD i 0==M.getD i 0) w
 | [],_=>by simp[Op.eqItems]
 | i::is,h=>by
   obtain⟨h1,h2⟩:=h i (by simp)
   have ih:=MF d A M w is (fun j hj=>h j (by simp[hj]))
   have p1:=run_part_plain (P:=prog) w NP (cN .u8 A i h1)
   have p2:=run_part_plain (P:=prog) w NP (cN .u8 M i h2)
   rw[show A[i]=A.getD i 0 by simp[List.getD_eq_getElem?_getD,h1]]at p1
   rw[show M[i]=M.getD i 0 by simp[List.getD_eq_getElem?_getD,h2]]at p2
   simp only[Op.eqItems,Nat.mul_one,Sem.run_bind,p1,p2,Result.andThen_ok,run_equalIn_int w d 5 .u8 .u8 _ _ underlying5,List.all_cons]
   cases A.getD i 0==M.getD i 0<;>simp only[Bool.not_false,Bool.not_true,Bool.false_eq_true,if_true,if_false,Bool.false_and,Bool.true_and,Sem.run_pure]
   exact ih
set_option maxRecDepth 10000 in
theorem DX (A M:List Int) (hA:A.length=32) (hM:M.length=32) (w:World):(Op.equalIn 10000 22 (.agg (Iv .u8 A)) (.agg (Iv .u8 M))).run prog w=.ok (decide (A=M)) w:=by
 obtain⟨i,hi⟩:=info_of_underlying underlying5
 have hc:prog.cellsOf 5=1:=by kernel_rfl
 rw[run_equalIn_array w 9999 _ _ underlying22 hi,hc]
 rw[MF 9998 A M w _ (fun i hi=>by simp at hi;omega)]
 congr 1
 rw[Bool.eq_iff_iff,List.all_eq_true]
 simp only[List.mem_range,beq_iff_eq,decide_eq_true_eq]
 constructor
 ·intro h
  apply List.ext_getElem (by omega)
  intro i h1 h2
  have:=h i (by omega)
  simpa[List.getD_eq_getElem?_getD,h1,h2]using this
 ·rintro rfl i _
  rfl
theorem pM:prog.eqGuardType prog.depth 22=false:=by kernel_rfl
theorem lL {P:Program} {ops:Array Oper} {rest:List Oper} {o:Oper} {a:Act} {w:World} {Q:Exit→Act→World→Prop} (hgd:o.guard=none) (t t':TypeId) (x y:Operand) (ho:o.op=.binOp .eql t x y t') (xs ys:Array Value) (hx:a.eval x=.agg xs) (hy:a.eval y=.agg ys) (r:Bool)
 (he:∀w,(Op.equalIn 10000 t (.agg xs) (.agg ys)).run P w=.ok r w) (hm:P.eqGuardType P.depth t=false)
 (h:wpList P ops Q rest (a.put o.dst (.bool r)) w):wpList P ops Q (o::rest) a w:=by
 refine wpList_plain hgd fun K hK=>?_
 have e1:(execOp a.eval o).run P w=.ok (.value (.bool r)) w:=by
  unfold execOp
  simp only[ho,hx,hy,Sem.run_bind,run_eqGuard_agg w .eql t x y xs ys hm,run_eql_struct,he w,Result.andThen_ok,Sem.run_pure]
 unfold Oper.wp
 rw[e1]
 exact hK _ _ h
abbrev bB (g:Nat) (l:List Int):Nat×Array Value×TypeId:=(g,Iv .u8 l,22)
theorem vK {l:List Int} (h:l.length=32):(Iv .u8 (aA 32)).size=(Iv .u8 l).size:=by rw[aD,aD,h];rfl
set_option maxRecDepth 10000 in
set_option maxHeartbeats 2000000 in
theorem NV (c h l p:List Int) (m:Int) (r:List Value) (hc:c.length=32) (hh:h.length=32) (hl:l.length=32) (hlb:aE l) (hp:p.length=32) (hpb:aE p) (b:Nat) (t:TypeId) (w:World) (hr:w.heap[b]? =some (.cells (fA c h (.int .i64 m::r)).toArray t)):
 Calls prog 88 #[.pointer (some ⟨b,64,none⟩),.agg (Iv .u8 l),.agg (Iv .u8 p)] w fun x w'=>x=.returned (.tuple #[.agg (Iv .u8 (DH l p)),if DH l p=aA 32 then oG 29 else .nilIface])∧Tn w b (fA c h (.int .i64 (IntKind.i64.wrap (m+1))::r)) t w':=by
 have hz:=fT
 have CS:Hid (∀W,_):=fun W=>xS l p m hl hp hlb hpb W
 obtain⟨A,eA⟩:∃A,DH l p=A:=⟨_,rfl⟩
 have hA:Hid (A.length=32):=by show _=_;rw[←eA];exact nC _ _
 rw[eA]at CS⊢
 clear eA
 obtain⟨v,ev⟩:∃x,IntKind.i64.wrap (m+1)=x:=⟨_,rfl⟩
 rw[ev]at CS⊢
 clear ev
 obtain⟨er,ee⟩:∃x,(if A=aA 32 then oG 29 else .nilIface)=x:=⟨_,rfl⟩
 rw[ee]
 have EE:Hid _:=ee
 clear ee
 have HC:Hid _:=hc
 have H32:Hid _:=hh
 have Hl:Hid _:=hl
 have Hp:Hid _:=hp
 have S0:Hid _:=Sx.start hr
 clear hc hh hl hlb hr hp hpb
 go_enter func88,ntmps88
 go_wp2_with fail
 obtain⟨n0,e0⟩:∃n,w.heap.size=n:=⟨_,rfl⟩
 have S1:=((S0.out.alloc n0 e0 (Iv .u8 l) 22).alloc (n0+1) (by simp[e0]) (Iv .u8 p) 22).alloc (n0+1+1) (by simp[e0]) (Iv .u8 (aA 32)) 22
 rw[e0]
 obtain⟨W,hW⟩:∃W,((w.alloc (.cells (Iv .u8 l) 22)).alloc (.cells (Iv .u8 p) 22)).alloc (.cells (Iv .u8 (aA 32)) 22)=W:=⟨_,rfl⟩
 rw[hW]at S1⊢
 have S:Hid _:=S1.drew
 clear hW S1 S0 e0
 refine wRt 12 (fun w'=>∃x:Wp (fun v=>Sx w b (fA c h (.int .i64 m::r)) t [bB (n0+1+1) (aA 32),bB (n0+1) p,bB n0 l] v),w'=x.w) (.held [0,1,2] (.fork 3 (.held [4,5] (.fork 6 (.held [7,8,9] (.tail 10 (.tail 11 (.last 12 .done)))) 10 (.tail 6 (.held [7,8,9] (.tail 11 (.last 12 .done)))))) 10 (.tail 3 (.held [4,5] (.tail 6 (.held [7,8,9] (.tail 11 (.last 12 .done)))))))) fH (by kernel_rfl) ⟨⟨_,S.out⟩,rfl⟩ ?_
 obtain⟨y0,ey⟩:∃y,y=W.drew:=⟨_,rfl⟩
 rw[←ey]at S⊢
 clear ey
 refine wTh ?_
 simp only[oS]
 refine wqLr rfl 22 _ rfl n0 rfl _ (Iv .u8 l) _ _ (fun w' hw'=>by obtain⟨x,rfl⟩:=hw';exact x.p.at (.tail _ (.tail _ (.head _)))) underlying22 rfl (aS Hl.out) ?_
 simp only[pS]
 refine wqLr rfl 22 _ rfl (n0+1) rfl _ (Iv .u8 p) _ _ (fun w' hw'=>by obtain⟨x,rfl⟩:=hw';exact x.p.at (.tail _ (.head _))) underlying22 rfl (aS Hp.out) ?_
 simp only[pS]
 refine aB rfl (.pointer (some ⟨b,64,none⟩)) (fun w'=>by kernel_rfl) ?_
 simp only[pS]
 refine wqN ?_
 apply eI (.tail 11 (.last 12 .done)) (fun g v=>Sx w b (fA c h (.int .i64 m::r)) t [bB g (aA 32),bB (n0+1+1) (aA 32),bB (n0+1) p,bB n0 l] v)
 intro hZ
 apply eI (.tail 6 (.held [7,8,9] (.tail 11 (.last 12 .done)))) (fun g v=>Sx w b (fA c h (.int .i64 m::r)) t [bB g (aA 32),bB (n0+1+1) (aA 32),bB (n0+1) p,bB n0 l] v)
 intro hY
 refine wTf ?_ ?_
 ·simp only[oS]
  go_wp2_with fail
  refine⟨⟨⟨_,S.out⟩,rfl⟩,?_⟩
  refine wTh ?_
  simp only[oS]
  refine aB rfl (.pointer (some ⟨b,64,none⟩)) (fun w'=>by kernel_rfl) ?_
  simp only[pS]
  refine eQ rfl (.int .i64 m) (fun w' hw'=>by obtain⟨x,rfl⟩:=hw';exact p9 3 _ rfl ⟨b,64,none⟩ rfl .i64 underlying3 _ _ (abC x.p.here HC.out H32.out)) ?_
  simp only[pS]
  refine wqN ?_
  refine wTf ?_ ?_
  ·simp only[oS]
   go_wp2_with fail
   refine(CS.out _).mono ?_
   rintro e Z ⟨rfl,hb⟩
   have S2:Hid _:=S.out.later hb
   clear hb
   go_wp2_with fail
   refine⟨⟨⟨_,S2.out⟩,rfl⟩,?_⟩
   refine wTh ?_
   simp only[oS]
   refine aB rfl (.tuple #[.agg (Iv .u8 A),.int .i64 v]) (fun w'=>by kernel_rfl) ?_
   simp only[pS]
   refine aB rfl (.agg (Iv .u8 A)) (fun w'=>by kernel_rfl) ?_
   simp only[pS]
   refine aB rfl (.int .i64 v) (fun w'=>by kernel_rfl) ?_
   simp only[pS]
   refine wqN ?_
   refine wTt ?_
   simp only[oS]
   go_wp2_with fail
   have S3:=S2.out.alloc _ rfl (Iv .u8 (aA 32)) 22
   refine⟨⟨⟨_,S3.tail⟩,rfl⟩,?_⟩
   obtain⟨g,eg⟩:∃g,g=Z.heap.size:=⟨_,rfl⟩
   rw[←eg]at S3⊢
   clear eg
   exact hZ.out g _ S3
  ·simp only[oS]
   go_wp2_with fail
   have S3:=S.out.alloc _ rfl (Iv .u8 (aA 32)) 22
   refine⟨⟨⟨_,S3.tail⟩,rfl⟩,?_⟩
   obtain⟨g,eg⟩:∃g,g=y0.heap.size:=⟨_,rfl⟩
   rw[←eg]at S3⊢
   clear eg
   exact hY.out g _ S3
 ·simp only[oS]
  go_wp2_with fail
  have S3:=S.out.alloc _ rfl (Iv .u8 (aA 32)) 22
  refine⟨⟨⟨_,S3.tail⟩,rfl⟩,?_⟩
  obtain⟨g,eg⟩:∃g,g=y0.heap.size:=⟨_,rfl⟩
  rw[←eg]at S3⊢
  clear eg
  have S4:Hid _:=S3
  clear S3
  refine wTt ?_
  simp only[oS]
  go_wp2_with fail
  refine⟨⟨⟨_,S4.out.tail⟩,rfl⟩,?_⟩
  refine wTh ?_
  simp only[oS]
  refine aB rfl (.pointer (some ⟨b,64,none⟩)) (fun w'=>by kernel_rfl) ?_
  simp only[pS]
  refine eQ rfl (.int .i64 m) (fun w' hw'=>by obtain⟨x,rfl⟩:=hw';exact p9 3 _ rfl ⟨b,64,none⟩ rfl .i64 underlying3 _ _ (abC x.p.here HC.out H32.out)) ?_
  simp only[pS]
  refine wqN ?_
  exact hY.out g _ S4.out
 ·intro g v1 H
  have S4:Hid _:=H
  clear H S
  refine wTt ?_
  simp only[oS]
  go_wp2_with fail
  refine(CS.out _).mono ?_
  rintro e Z ⟨rfl,hb⟩
  have S5:Hid _:=S4.out.later hb
  clear hb
  go_wp2_with fail
  refine⟨⟨⟨_,S5.out.tail⟩,rfl⟩,?_⟩
  refine wTh ?_
  simp only[oS]
  refine aB rfl (.tuple #[.agg (Iv .u8 A),.int .i64 v]) (fun w'=>by kernel_rfl) ?_
  simp only[pS]
  refine aB rfl (.agg (Iv .u8 A)) (fun w'=>by kernel_rfl) ?_
  simp only[pS]
  refine aB rfl (.int .i64 v) (fun w'=>by kernel_rfl) ?_
  simp only[pS]
  refine wqN ?_
  exact hZ.out g _ S5.out
 intro g v1 H
 have S4:Hid _:=H
 clear H S CS
 refine wTt ?_
 simp only[oS]
 go_wp2_with(refine wpPr rfl 22 _ _ rfl g (Iv .u8 A) rfl rfl _ _ (S4.out.at (.head _)) (aS hA.out) (vK hA.out) (aG _ _) ?_)
 intro v2 hP
 have S5:Hid _:=S4.out.put0 hP
 clear hP S4
 go_wp2_with fail
 refine⟨⟨⟨_,S5.out.tail⟩,rfl⟩,?_⟩
 refine wTl ?_
 simp only[oS]
 go_wp2_with fail
 refine bE ?_
 have hfit:Hid (64<(fA c h (.int .i64 m::r)).length):=by show _<_;rw[jU _ _ _ HC.out H32.out,List.length_cons];omega
 go_wp2_with(refine vJ rfl 3 _ _ rfl .i64 b 64 v rfl rfl (fA c h (.int .i64 m::r)) t S5.out.here acI hfit.out _ (abB HC.out H32.out) ?_)
 intro v3 hP
 have S6:Hid _:=S5.out.putR hP
 clear hP S5
 have hbz:Hid (prog.built 22 []=some (Iv .u8 (aA 32))):=by show _=_;kernel_rfl
 by_cases hE:A=aA 32
 ·have EE2:Hid (er=oG 29):=by have h:=EE.out;rw[if_pos hE]at h;exact h.symm
  have he:Hid (∀w,(Op.equalIn 10000 22 (.agg (Iv .u8 A)) (.agg (Iv .u8 (aA 32)))).run prog w=.ok true w):=fun w=>by rw[DX A (aA 32) hA.out rfl w,decide_eq_true hE]
  clear hE
  go_wp2_with(first
   | refine wpLr rfl 22 _ rfl g rfl _ (Iv .u8 A) _ _ (S6.out.at (.head _)) underlying22 rfl (aS hA.out) ?_
   | refine aV rfl 22 _ rfl (Iv .u8 (aA 32)) _ (by kernel_rfl) hbz.out ?_
   | refine lL rfl 22 22 _ _ rfl (Iv .u8 A) (Iv .u8 (aA 32)) rfl rfl _ he.out pM ?_
   | refine wpPr rfl 22 _ _ rfl (n0+1+1) (Iv .u8 A) rfl rfl _ _ (S6.out.at (.tail _ (.head _))) (aS hA.out) (vK hA.out) (aG _ _) ?_)
  intro v4 hP
  have S7:Hid _:=Sx.putK (R1:=[bB g A]) S6.out hP
  clear hP S6
  go_wp2_with fail
  exact bodyPost_ret (v:=.tuple #[.agg (Iv .u8 A),oG 29]) (kV rfl _ _ _ _ (Iv .u8 A) _ _ rfl rfl (S7.out.at (.tail _ (.head _))) underlying22 rfl (aS hA.out)) rfl ⟨by rw[EE2.out],S7.out.tn⟩
 ·have EE2:Hid (er=.nilIface):=by have h:=EE.out;rw[if_neg hE]at h;exact h.symm
  have he:Hid (∀w,(Op.equalIn 10000 22 (.agg (Iv .u8 A)) (.agg (Iv .u8 (aA 32)))).run prog w=.ok false w):=fun w=>by rw[DX A (aA 32) hA.out rfl w,decide_eq_false hE]
  clear hE
  go_wp2_with(first
   | refine wpLr rfl 22 _ rfl g rfl _ (Iv .u8 A) _ _ (S6.out.at (.head _)) underlying22 rfl (aS hA.out) ?_
   | refine aV rfl 22 _ rfl (Iv .u8 (aA 32)) _ (by kernel_rfl) hbz.out ?_
   | refine lL rfl 22 22 _ _ rfl (Iv .u8 A) (Iv .u8 (aA 32)) rfl rfl _ he.out pM ?_
   | refine wpPr rfl 22 _ _ rfl (n0+1+1) (Iv .u8 A) rfl rfl _ _ (S6.out.at (.tail _ (.head _))) (aS hA.out) (vK hA.out) (aG _ _) ?_)
  intro v4 hP
  have S7:Hid _:=Sx.putK (R1:=[bB g A]) S6.out hP
  clear hP S6
  go_wp2_with fail
  exact bodyPost_ret (v:=.tuple #[.agg (Iv .u8 A),.nilIface]) (kV rfl _ _ _ _ (Iv .u8 A) _ _ rfl rfl (S7.out.at (.tail _ (.head _))) underlying22 rfl (aS hA.out)) rfl ⟨by rw[EE2.out],S7.out.tn⟩
theorem YU (l p:List Int):aE (DH l p):=vP _ _ (fun i=>by omega)
theorem Sx.sl {w y:World} {b g o:Nat} {cs:List Value} {t:TypeId} {R:Rs} {l:List Int} (h:Sx w b cs t R y) (hs:Sl w g o l) (hne:g≠b):Sl y g o l:=hs.turn h.tn hne
theorem afL {W:World} {c h G:List Int} {v:Value} {b:Nat} {t:TypeId} {fr:Nat×Nat} (hr:W.heap[b]? =some (.cells (fA c h (v::G.map (Value.int .u8))).toArray t fr)) (hc:c.length=32) (hh:h.length=32) (hG:G.length=32):W.rangeAt b 65 (G.map (Value.int .u8)):=by
 have:=fE hr 65 32
 have e:(fA c h (v::G.map (Value.int .u8))).drop 65=G.map (Value.int .u8):=by
  unfold fA
  rw[show 65=(c.map (Value.int .u8)).length+((h.map (Value.int .u8)).length+1) by simp[hc,hh],←List.drop_drop,List.drop_left,←List.drop_drop,List.drop_left]
  rfl
 rwa[e,List.take_of_length_le (by rw[lU,hG];exact nQ _)]at this
def sfC (c p:List Int):List Int:=fB (gF c p) 0
theorem aa8 (c p:List Int):(sfC c p).length=32:=bA _ _
theorem D9 (off:Nat):∀(l:List Value) (k:Nat) (cs:Array Value),(l.zipIdx k).foldl (fun cs (x:Value×Nat)=>cs.setIfInBounds (off+x.2) x.1) cs=JK cs (off+k) l
 | [],k,cs=>rfl
 | v::l,k,cs=>by
   rw[List.zipIdx_cons,List.foldl_cons,D9 off l (k+1)]
   rfl
theorem dX {place:Nat→Option (Nat×Nat)} (z:List Value) (i off n:Nat) (v:Value) (vs:List Value) (hv:v.cells=vs.toArray) (hp:place i=some (off,n)) (hn:vs.length=n) (hz:off+n≤z.length) (z':List Value) (hz':z.take off++vs++z.drop (off+vs.length)=z') (rest:List (Nat×Value)):
 Instr.fill place z.toArray ((i,v)::rest)=Instr.fill place z'.toArray rest:=by
 subst hn hz'
 conv=>lhs;unfold Instr.fill
 simp only[hp,hv]
 rw[if_neg (by simp;omega)]
 congr 1
 have:=D9 off vs 0 z.toArray
 rw[Nat.add_zero,yD vs z off hz]at this
 rw[←this]
 simp
abbrev fK (l:List Int):List Value:=l.map (Value.int .u8)
theorem afY (ps:List (Nat×Value)):prog.built 70 ps=Instr.fill (fun i=>#[(0,32),(32,32)][i]?) (fK (aA 32)++(fK (aA 32)++[])).toArray ps:=by kernel_rfl
theorem zC {α:Type} (p q C:List α) (hp:p.length=q.length):(p++C).take 0++q++(p++C).drop (0+q.length)=q++C:=pB [] p q C 0 rfl hp
theorem FA {α:Type} (A B p q C:List α) (i:Nat) (hA:A.length+B.length=i) (hp:p.length=q.length):(A++(B++(p++C))).take i++q++(A++(B++(p++C))).drop (i+q.length)=A++(B++(q++C)):=by
 have:=pB (A++B) p q C i (by rw[lQ,hA]) hp
 simpa only[List.append_assoc]using this
theorem FB {α:Type} (A B D p q C:List α) (i:Nat) (hA:A.length+B.length+D.length=i) (hp:p.length=q.length):(A++(B++(D++(p++C)))).take i++q++(A++(B++(D++(p++C)))).drop (i+q.length)=A++(B++(D++(q++C))):=by
 have:=FA (A++B) D p q C i (by rw[lQ,hA]) hp
 simpa only[List.append_assoc]using this
theorem NA {α:Type} (A B D E p q C:List α) (i:Nat) (hA:A.length+B.length+D.length+E.length=i) (hp:p.length=q.length):(A++(B++(D++(E++(p++C))))).take i++q++(A++(B++(D++(E++(p++C))))).drop (i+q.length)=A++(B++(D++(E++(q++C)))):=by
 have:=FB (A++B) D E p q C i (by rw[lQ,hA]) hp
 simpa only[List.append_assoc]using this
theorem aU (l:List Int):(fK l).length=l.length:=lU _
theorem L5 (c h:List Int) (hc:c.length=32) (hh:h.length=32):prog.built 70 [(0,.agg (Iv .u8 c)),(1,.agg (Iv .u8 h))]=some (fA c h []).toArray:=by
 refine(afY _).trans ?_
 refine(dX _ 0 0 32 _ (fK c) rfl rfl (by rw[aU,hc]) (by decide) _ (zC (fK (aA 32)) _ _ (by rw[aU,aU,hc];rfl)) _).trans ?_
 refine(dX _ 1 32 32 _ (fK h) rfl rfl (by rw[aU,hh]) (by simp[aA,hc]) _ (pB (fK c) (fK (aA 32)) _ _ 32 (by rw[aU,hc]) (by rw[aU,aU,hh];rfl)) _).trans ?_
 rfl
section
variable {c h l pu e st G:List Int} {m:Int} {Pt C1 H1 p1 X1 C2 H2 p2 X2 C3 H3:List Int} {m1 m2 m3:Int}
end
theorem Sl.range {w:World} {g o:Nat} {l:List Int} (h:Sl w g o l):w.rangeAt g o (fK l):=by
 intro i v hv
 rw[List.getElem?_map]at hv
 cases hl:l[i]? with
 | none=>rw[hl]at hv;cases hv
 | some x=>
   rw[hl]at hv
   obtain rfl:Value.int .u8 x=v:=by simpa using hv
   have hi:i<l.length:=(List.getElem?_eq_some_iff.1 hl).1
   rw[h.2 i hi,List.getD_eq_getElem?_getD,hl]
   rfl
theorem acJ {r:Int} {z:List Int} (h:z.length=140):(prog.info? 29).map (·.size)=some (WL r z).toArray.size:=by rw[JZ,h];kernel_rfl
theorem iX {l:List Int} (h:l.length=12):(prog.info? 24).map (·.size)=some (Iv .u8 l).size:=by rw[aD,h];kernel_rfl
abbrev YR:ByteArray:=⟨#[115,116,97,116,105,99]⟩
abbrev abR:ByteArray:=⟨#[115,116,97,109,112]⟩
abbrev WG (g:Nat) (l:List Int):Nat×Array Value×TypeId:=(g,Iv .u8 l,24)
abbrev uA (g:Nat) (s:Int) (z:List Int):Nat×Array Value×TypeId:=(g,(WL s z).toArray,29)
def WF:List Int:=[73,75,32,50,53,53,49,57,32,67,104,97,67,104,97,80,111,108,121,32,66,76,65,75,69,50,115]
def A6:List Int:=[102,114,111,110,116,32,103,97,116,101,32,111,102,32,97,32,114,101,115,112,111,110,100,101,114,44,32,102,105,114,115,116,32,102,111,114,109]
theorem EF {l:List Int} (h:(l.all fun x=>decide (0≤x∧x≤255))=true):aE l:=by
 intro i
 rw[List.getD_eq_getElem?_getD]
 cases hi:l[i]? with
 | none=>exact(show(0:Int)≤0∧(0:Int)≤255 from⟨by decide,by decide⟩)
 | some x=>exact of_decide_eq_true (List.all_eq_true.1 h x (List.mem_of_getElem? hi))
theorem abO:aE WF:=EF (by decide)
theorem X6:aE A6:=EF (by decide)
theorem TM {P:Program} {w:World} {g:Nat} {C:Array Value} {t e:TypeId} (hg:w.heap[g]? =some (.cells C e)) (ht:P.underlying t=some (.slice e)) (he:P.underlying e=some (.int .u8)) (n c:Nat):
 ∃w',(convert t t (.slice (some ⟨g,0,none⟩) n c)).run P w=.ok (.slice (some ⟨g,0,none⟩) n c) w'∧w'.heap[g]? =some (.cells C e (C.size,C.size+1))∧(∀k,k≠g→w'.heap[k]? =w.heap[k]?)∧w'.heap.size=w.heap.size∧w'.os=w.os∧w'.tape=w.tape∧w'.output=w.output:=by
 have hsh:w.shape? g=some (e,C.size):=by unfold World.shape?;rw[hg]
 refine⟨w.freeze ⟨g,C.size,none⟩ 1,by simp[convert,run_underlying ht,run_underlying he,markStringish,hsh],?_⟩
 unfold World.freeze
 rw[if_neg (by decide)]
 refine⟨?_,fun k hk=>?_,by simp,rfl,rfl,rfl⟩
 ·simp[Array.getElem?_modify,hg]
 ·simp[Array.getElem?_modify,Ne.symm hk]
theorem Rn.marked {w0 W W':World} {R:Rs} {g:Nat} {l:List Int} {t:TypeId} (h:Rn w0 ((g,Iv .u8 l,t)::R) W) (hg:∃fr,W'.heap[g]? =some (.cells (Iv .u8 l) t fr)) (hf:∀k,k≠g→W'.heap[k]? =W.heap[k]?) (hs:W'.heap.size=W.heap.size) (h1:W'.os=W.os) (h2:W'.tape=W.tape) (h3:W'.output=W.output):Rn w0 R W'∧Sl W' g 0 l∧w0.heap.size≤g:=by
 have hgr:=(h.rw.row (g,Iv .u8 l,t) (.head _))
 have hnd:=h.nd
 rw[List.map_cons,List.nodup_cons]at hnd
 refine⟨⟨⟨⟨h1.trans h.bel.os,h2.trans h.bel.tape,h3.trans h.bel.output,by rw[hs];exact h.bel.size,fun k hk=>(hf k (by have:=hgr.1;show k≠g;omega)).trans (h.bel.block k hk)⟩,fun r hr=>?_⟩,hnd.2⟩,⟨by rw[hs];exact hgr.2.1,fun i hi=>?_⟩,hgr.1⟩
 ·have h4:=h.rw.row r (.tail _ hr)
  exact⟨h4.1,by rw[hs];exact h4.2.1,(hf r.1 (fun e=>hnd.1 (e▸List.mem_map_of_mem (f:=(·.1)) hr))).trans h4.2.2⟩
 ·obtain⟨fr,hg⟩:=hg
  rw[cell_of_row _ _ _ _ _ _ hg,Nat.zero_add,cN .u8 l i hi]
  simp[List.getD_eq_getElem?_getD,hi]
theorem Rn.conv {w0 W:World} {R:Rs} {g:Nat} {l:List Int} (h:Rn w0 ((g,Iv .u8 l,5)::R) W) (n:Nat):
 ∃W',(convert 48 48 (.slice (some ⟨g,0,none⟩) n n)).run prog W=.ok (.slice (some ⟨g,0,none⟩) n n) W'∧(Rn w0 R W'∧Sl W' g 0 l∧w0.heap.size≤g):=by
 obtain⟨W',h1,h2,h3,h4,h5,h6,h7⟩:=TM (P:=prog) (h.at (.head _)) underlying48 underlying5 n n
 exact⟨W',h1,h.marked ⟨_,h2⟩ h3 h4 h5 h6 h7⟩
theorem dZ.row2 {w:World} {g:Nat} {v u:Value} {P R:List Int} {t:TypeId} (hg:w.heap[g]? =some (.cells #[v,u] t)) (h:eF w v P) (h2:eF w u R):dZ w g 0 2 [v,u] [P,R]:=by
 refine⟨rfl,rfl,by decide,fun _=>(Array.getElem?_eq_some_iff.1 hg).1,fun i hi=>?_,fun i hi hi'=>?_⟩
 ·have hc:i=0∨i=1:=by simp at hi;omega
  rcases hc with rfl|rfl<;>(rw[cell_of_row _ _ _ _ _ _ hg];rfl)
 ·have hc:i=0∨i=1:=by simp at hi;omega
  rcases hc with rfl|rfl
  ·exact h
  ·exact h2
theorem Sl.part {w:World} {g n cap:Nat} {l:List Int} (h:Sl w g 0 l) (hb:aE l) (hn:l.length=n) (h1:n≤cap) (h2:cap≤9223372036854775807):eF w (.slice (some ⟨g,0,none⟩) n cap) l:=
 ⟨_,_,_,rfl,hn,h1,h2,hb,.inr ⟨g,0,rfl,fun j hj=>h.2 j (by omega)⟩⟩
section
variable {P:Program} {ops:Array Oper} {Q:Exit→Act→World→Prop} {S1:World→Prop} {T0:Tr} {a:Act} {w:World}
theorem YT (T:Tr) (Fa:Nat→Nat→Nat→World→Prop) (F:Nat→Nat→Nat→Act) (hm:Hid (∀c d e w',Fa c d e w'→dP P ops Q S1 T (F c d e) w')→dP P ops Q S1 T0 a w) (hc:∀c d e w',Fa c d e w'→dP P ops Q S1 T (F c d e) w'):dP P ops Q S1 T0 a w:=hm hc
end
theorem ad0:∀W,(zeroValue 70).run prog W=.ok (.agg (fA (aA 32) (aA 32) []).toArray) W:=fun W=>by kernel_rfl
theorem KQ {c h:List Int} (hc:c.length=32) (hh:h.length=32):(prog.info? 70).map (·.size)=some (fA c h []).toArray.size:=by rw[List.size_toArray,jU _ _ _ hc hh];kernel_rfl
theorem afU {c h:List Int} (hc:c.length=32) (hh:h.length=32):(fA (aA 32) (aA 32) []).toArray.size=(fA c h []).toArray.size:=by rw[List.size_toArray,List.size_toArray,jU _ _ _ hc hh];rfl
theorem abP (c h:List Int):(fA c h []).toArray.all (·.oneCell')=true:=by simp[fA,Value.oneCell']
abbrev YM (g:Nat) (c h:List Int):Nat×Array Value×TypeId:=(g,(fA c h []).toArray,70)
def FU:List Int:=dM WF
def adS:List Int:=dM (FU++A6)
def CV (G:List Int):List Int:=dM (adS++G)
set_option maxRecDepth 10000 in
set_option maxHeartbeats 4000000 in
theorem yE (G:List Int) (hG:G.length=32) (hGb:aE G) (w:World) (ht:dR w) (hw4:3<w.heap.size):
 Calls prog 32 #[.agg (Iv .u8 G)] w fun x w'=>x=.returned (.agg (fA FU (CV G) []).toArray)∧Below w.heap.size w w':=by
 obtain⟨c,ec⟩:∃c,dM WF=c:=⟨_,rfl⟩
 obtain⟨h,eh⟩:∃h,dM (c++A6)=h:=⟨_,rfl⟩
 obtain⟨k,ek⟩:∃k,dM (h++G)=k:=⟨_,rfl⟩
 have e1:FU=c:=ec
 have e2:CV G=k:=by unfold CV adS;rw[e1,eh,ek]
 rw[e1,e2]
 have lc:Hid (c.length=32):=by show _=_;rw[←ec];exact bV _
 have lh:Hid (h.length=32):=by show _=_;rw[←eh];exact bV _
 have lk:Hid (k.length=32):=by show _=_;rw[←ek];exact bV _
 have bc:Hid (aE c):=by show aE _;rw[←ec];exact dK _
 have bh:Hid (aE h):=by show aE _;rw[←eh];exact dK _
 have EC:Hid (∀x,dM [WF].flatten=x→x=c):=fun x hx=>by rw[←hx,←ec];simp
 have EH:Hid (∀x,dM [c,A6].flatten=x→x=h):=fun x hx=>by rw[←hx,←eh];simp
 have EK:Hid _:=ek
 have HG:Hid (G.length=32∧aE G):=⟨hG,hGb⟩
 have HT:Hid (dR w):=ht
 clear ec eh ek e1 e2 hG hGb ht
 have hz:=fT
 have hzs:=ad0
 obtain⟨W,hcv,F1,L1,l1⟩:=Rn.conv (((Rn.start w).alloc (Iv .u8 G) 22).alloc (fA (aA 32) (aA 32) []).toArray 70|>.alloc (Iv .u8 WF) 5) 27
 have hcv2:(convert 48 48 (.slice (some ⟨w.heap.size+1+1,0,none⟩) 27 27)).run prog (((w.alloc (.cells (Iv .u8 G) 22)).alloc (.cells (fA (aA 32) (aA 32) []).toArray 70)).alloc (.cells #[.int .u8 73,.int .u8 75,.int .u8 32,.int .u8 50,.int .u8 53,.int .u8 53,.int .u8 49,.int .u8 57,.int .u8 32,.int .u8 67,.int .u8 104,.int .u8 97,.int .u8 67,.int .u8 104,.int .u8 97,.int .u8 80,.int .u8 111,.int .u8 108,.int .u8 121,.int .u8 32,.int .u8 66,.int .u8 76,.int .u8 65,.int .u8 75,.int .u8 69,.int .u8 50,.int .u8 115] 5))=.ok (.slice (some ⟨w.heap.size+1+1,0,none⟩) 27 27) W:=by simp only[wU]at hcv;exact hcv
 simp only[wU]at F1 L1
 have F:Hid _:=F1
 have HL:Hid (Sl W (w.heap.size+1+1) 0 WF):=L1
 clear hcv F1 L1 l1
 go_enter func32,ntmps32
 go_wp2_with fail
 clear hcv2
 obtain⟨n0,e0⟩:∃n,w.heap.size=n:=⟨_,rfl⟩
 rw[e0]at F HL hw4⊢
 have HP:=dZ.one (t:=48) (Sl.part (n:=27) (cap:=27) HL.out abO rfl (nQ _) (by decide))
 have F2:=F.out.alloc #[.slice (some ⟨n0+1+1,0,none⟩) 27 27] 48
 obtain⟨W2,hW2⟩:∃W2,W.alloc (.cells #[.slice (some ⟨n0+1+1,0,none⟩) 27 27] 48)=W2:=⟨_,rfl⟩
 rw[hW2]at HP F2⊢
 have F3:Hid _:=F2.tail
 have HP3:Hid _:=HP
 clear hW2 F2 HP HL F
 refine(pN [WF] _ 1 1 W.heap.size 0 W2 HP3.out (by decide) (HT.out.later F3.out.bel (nQ _)) c EC).mono ?_
 rintro x W3 ⟨rfl,hb⟩
 have F4:Hid _:=(F3.out.later hb (nQ _)).alloc (Iv .u8 (aA 32)) 22
 clear hb F3 HP3
 obtain⟨n2,e2⟩:∃n,W3.heap.size=n:=⟨_,rfl⟩
 rw[e2]at F4
 go_wp2_with(refine wpPr rfl 22 _ _ rfl n2 (Iv .u8 c) (by rw[←e2];rfl) rfl _ _ (F4.out.at (.head _)) (aS lc.out) (vK lc.out) (aG _ _) ?_)
 intro W4 hP
 have F5:Hid _:=F4.out.put0 hP
 clear hP F4 e2
 go_wp2_with fail
 have S:Hid _:=F5.out.drew
 clear F5
 refine wRt 8 (fun w'=>∃x:Wp (fun v=>Rn w [bB n2 c,YM (n0+1) (aA 32) (aA 32),bB n0 G] v),w'=x.w) (.held [0,1] (.fork 2 (.fork 3 (.fork 4 (.fork 5 (.held [6] (.tail 7 (.last 8 .done))) 7 (.tail 5 (.held [6] (.last 8 .done)))) 7 (.tail 4 (.tail 5 (.held [6] (.last 8 .done))))) 7 (.tail 3 (.tail 4 (.tail 5 (.held [6] (.last 8 .done)))))) 7 (.tail 2 (.tail 3 (.tail 4 (.tail 5 (.held [6] (.last 8 .done)))))))) fH (by kernel_rfl) ⟨⟨_,S.out⟩,rfl⟩ ?_
 obtain⟨y0,ey⟩:∃y,y=W4.drew:=⟨_,rfl⟩
 rw[←ey]at S⊢
 clear ey
 refine wTh ?_
 simp only[oS]
 refine wqLr rfl 22 _ rfl n2 rfl _ (Iv .u8 c) _ _ (fun w' hw'=>by obtain⟨⟨x,hx⟩,rfl⟩:=hw';exact hx.at (.head _)) underlying22 rfl (aS lc.out) ?_
 simp only[pS]
 refine aB rfl (.slice (some ⟨n2,0,none⟩) 32 32) (fun w'=>by kernel_rfl) ?_
 simp only[pS]
 refine wqN ?_
 apply YT (.last 8 .done) (fun g7 g2 g4 v'=>Rn w [YM g7 (aA 32) (aA 32),bB n2 c,YM (n0+1) (aA 32) (aA 32),bB n0 G] v')
 intro hZ
 apply YT (.tail 5 (.held [6] (.last 8 .done))) (fun g7 g2 g4 v'=>Rn w [(g4,#[.slice (some ⟨n2,0,none⟩) 32 32,.slice (some ⟨g2,0,none⟩) 37 37],48),YM g7 (aA 32) (aA 32),bB n2 c,YM (n0+1) (aA 32) (aA 32),bB n0 G] v'∧Sl v' g2 0 A6)
 intro h3
 apply tN (.tail 4 (.tail 5 (.held [6] (.last 8 .done)))) (fun g7 g2 v'=>Rn w [YM g7 (aA 32) (aA 32),bB n2 c,YM (n0+1) (aA 32) (aA 32),bB n0 G] v'∧Sl v' g2 0 A6)
 intro h2
 apply tN (.tail 3 (.tail 4 (.tail 5 (.held [6] (.last 8 .done))))) (fun g7 g2 v'=>Rn w [(g2,Iv .u8 A6,5),YM g7 (aA 32) (aA 32),bB n2 c,YM (n0+1) (aA 32) (aA 32),bB n0 G] v')
 intro h1
 apply eI (.tail 2 (.tail 3 (.tail 4 (.tail 5 (.held [6] (.last 8 .done)))))) (fun g7 v'=>Rn w [YM g7 (aA 32) (aA 32),bB n2 c,YM (n0+1) (aA 32) (aA 32),bB n0 G] v')
 intro h0
 ·refine wTf ?_ ?_
  ·simp only[oS]
   go_wp2_with fail
   have S2:=S.out.alloc (Iv .u8 A6) 5
   refine⟨⟨⟨_,S2.tail⟩,rfl⟩,?_⟩
   obtain⟨g2,eg⟩:∃g,g=y0.heap.size:=⟨_,rfl⟩
   rw[←eg]at S2⊢
   clear eg
   have A1:Hid _:=S2
   clear S2
   obtain⟨y1,ey⟩:∃y,y=y0.alloc (.cells (Iv .u8 A6) 5):=⟨_,rfl⟩
   change Hid (Rn w _ (y0.alloc (.cells (Iv .u8 A6) 5)))at A1
   change dP _ _ _ _ _ _ (y0.alloc (.cells (Iv .u8 A6) 5))
   rw[←ey]at A1⊢
   clear ey
   refine wTf ?_ ?_
   ·simp only[oS]
    obtain⟨y2,hcv,S3,X3, -⟩:=Rn.conv A1.out 37
    go_wp2_with fail
    clear hcv
    refine⟨⟨⟨_,S3⟩,rfl⟩,?_⟩
    have A2:Hid _:=S3
    have B2:Hid (Sl y2 g2 0 A6):=X3
    clear S3 X3
    refine wTf ?_ ?_
    ·simp only[oS]
     go_wp2_with fail
     have S4:=A2.out.alloc #[.slice (some ⟨n2,0,none⟩) 32 32,.slice (some ⟨g2,0,none⟩) 37 37] 48
     refine⟨⟨⟨_,S4.tail⟩,rfl⟩,?_⟩
     obtain⟨g4,eg⟩:∃g,g=y2.heap.size:=⟨_,rfl⟩
     rw[←eg]at S4⊢
     clear eg
     have X4:=Sl.later B2.out (Below.refl y2.heap.size y2|>.alloc (nQ _) (.cells #[.slice (some ⟨n2,0,none⟩) 32 32,.slice (some ⟨g2,0,none⟩) 37 37] 48)) B2.out.1
     have A3:Hid _:=S4
     have B3:Hid _:=X4
     clear S4 X4
     obtain⟨y3,ey⟩:∃y,y=y2.alloc (.cells #[.slice (some ⟨n2,0,none⟩) 32 32,.slice (some ⟨g2,0,none⟩) 37 37] 48):=⟨_,rfl⟩
     rw[←ey]at A3 B3⊢
     clear ey
     have B3:Hid (Sl y3 g2 0 A6):=B3.out
     refine wTf ?_ ?_
     ·simp only[oS]
      go_wp2_with fail
      refine(pN [c,A6] _ 2 2 g4 0 y3 (dZ.row2 (A3.out.at (.head _)) (AC (sB (A3.out.at (.tail _ (.head _)))) lc.out bc.out) (Sl.part B3.out X6 rfl (nQ _) (by decide))) (by have:=lc.out;simp[this,A6]) (HT.out.later A3.out.bel (nQ _)) h EH).mono ?_
      rintro x y4 ⟨rfl,hb⟩
      have S5:Hid _:=(A3.out.later hb (nQ _)).tail
      clear hb
      go_wp2_with fail
      refine⟨⟨⟨_,S5.out⟩,rfl⟩,?_⟩
      refine wTh ?_
      simp only[oS]
      refine bT rfl 70 _ rfl (fA c h []).toArray _ (by kernel_rfl) (L5 c h lc.out lh.out) ?_
      simp only[pS]
      refine wqN ?_
      refine wTt ?_
      simp only[oS]
      go_wp2_with fail
      have S6:=S5.out.alloc (fA (aA 32) (aA 32) []).toArray 70
      refine⟨⟨⟨_,S6.tail⟩,rfl⟩,?_⟩
      obtain⟨g7,eg⟩:∃g,g=y4.heap.size:=⟨_,rfl⟩
      rw[←eg]at S6⊢
      clear eg
      exact hZ.out g7 g2 g4 _ S6
     ·simp only[oS]
      go_wp2_with fail
      have S6:=A3.out.alloc (fA (aA 32) (aA 32) []).toArray 70
      refine⟨⟨⟨_,S6.tail.tail⟩,rfl⟩,?_⟩
      obtain⟨g7,eg⟩:∃g,g=y3.heap.size:=⟨_,rfl⟩
      rw[←eg]at S6⊢
      clear eg
      exact h3.out g7 g2 g4 _ ⟨S6.two,Sl.later B3.out (Below.refl y3.heap.size y3|>.alloc (nQ _) _) B3.out.1⟩
    ·simp only[oS]
     go_wp2_with fail
     have S6:=A2.out.alloc (fA (aA 32) (aA 32) []).toArray 70
     refine⟨⟨⟨_,S6.tail⟩,rfl⟩,?_⟩
     obtain⟨g7,eg⟩:∃g,g=y2.heap.size:=⟨_,rfl⟩
     rw[←eg]at S6⊢
     clear eg
     exact h2.out g7 g2 _ ⟨S6,Sl.later B2.out (Below.refl y2.heap.size y2|>.alloc (nQ _) _) B2.out.1⟩
   ·simp only[oS]
    go_wp2_with fail
    have S6:=A1.out.alloc (fA (aA 32) (aA 32) []).toArray 70
    refine⟨⟨⟨_,S6.tail.tail⟩,rfl⟩,?_⟩
    obtain⟨g7,eg⟩:∃g,g=y1.heap.size:=⟨_,rfl⟩
    rw[←eg]at S6⊢
    clear eg
    exact h1.out g7 g2 _ S6.two
  ·simp only[oS]
   go_wp2_with fail
   have S6:=S.out.alloc (fA (aA 32) (aA 32) []).toArray 70
   refine⟨⟨⟨_,S6.tail⟩,rfl⟩,?_⟩
   obtain⟨g7,eg⟩:∃g,g=y0.heap.size:=⟨_,rfl⟩
   rw[←eg]at S6⊢
   clear eg
   exact h0.out g7 _ S6
 ·intro g7 v1 H0
  have H:Hid _:=H0
  clear H0 S
  refine wTt ?_
  simp only[oS]
  go_wp2_with fail
  have S2:=H.out.alloc (Iv .u8 A6) 5
  refine⟨⟨⟨_,S2.tail.tail⟩,rfl⟩,?_⟩
  obtain⟨g2,eg⟩:∃g,g=v1.heap.size:=⟨_,rfl⟩
  rw[←eg]at S2⊢
  clear eg
  exact h1.out g7 g2 _ S2
 ·intro g7 g2 v1 H0
  have H:Hid _:=H0
  clear H0 S
  refine wTt ?_
  simp only[oS]
  obtain⟨y2,hcv,S3,X3, -⟩:=Rn.conv H.out 37
  go_wp2_with fail
  clear hcv
  refine⟨⟨⟨_,S3.tail⟩,rfl⟩,?_⟩
  exact h2.out g7 g2 _ ⟨S3,X3⟩
 ·intro g7 g2 v1 H0
  have H:Hid _:=H0
  clear H0 S
  refine wTt ?_
  simp only[oS]
  go_wp2_with fail
  have S4:=H.out.1.alloc #[.slice (some ⟨n2,0,none⟩) 32 32,.slice (some ⟨g2,0,none⟩) 37 37] 48
  refine⟨⟨⟨_,S4.tail.tail⟩,rfl⟩,?_⟩
  obtain⟨g4,eg⟩:∃g,g=v1.heap.size:=⟨_,rfl⟩
  rw[←eg]at S4⊢
  clear eg
  have X4:=Sl.later H.out.2 (Below.refl v1.heap.size v1|>.alloc (nQ _) (.cells #[.slice (some ⟨n2,0,none⟩) 32 32,.slice (some ⟨g2,0,none⟩) 37 37] 48)) H.out.2.1
  exact h3.out g7 g2 g4 _ ⟨S4,X4⟩
 ·intro g7 g2 g4 v1 H0
  have H:Hid _:=H0
  clear H0 S
  refine wTt ?_
  simp only[oS]
  go_wp2_with fail
  refine(pN [c,A6] _ 2 2 g4 0 v1 (dZ.row2 (H.out.1.at (.head _)) (AC (sB (H.out.1.at (.tail _ (.tail _ (.head _))))) lc.out bc.out) (Sl.part H.out.2 X6 rfl (nQ _) (by decide))) (by have:=lc.out;simp[this,A6]) (HT.out.later H.out.1.bel (nQ _)) h EH).mono ?_
  rintro x y4 ⟨rfl,hb⟩
  have S5:Hid _:=(H.out.1.later hb (nQ _)).tail
  clear hb
  go_wp2_with fail
  refine⟨⟨⟨_,S5.out.tail⟩,rfl⟩,?_⟩
  refine wTh ?_
  simp only[oS]
  refine bT rfl 70 _ rfl (fA c h []).toArray _ (by kernel_rfl) (L5 c h lc.out lh.out) ?_
  simp only[pS]
  refine wqN ?_
  exact hZ.out g7 g2 g4 _ S5.out
 intro g7 g2 g4 v1 H0
 have H:Hid _:=H0
 clear H0 S
 refine wTl ?_
 simp only[oS]
 go_wp2_with(refine wpPr rfl 70 _ _ rfl g7 (fA c h []).toArray rfl rfl _ _ (H.out.at (.head _)) (KQ lc.out lh.out) (afU lc.out lh.out) (abP _ _) ?_)
 intro v2 hP
 have F:Hid _:=H.out.put0 hP
 clear hP H
 refine bE ?_
 go_wp2_with fail
 refine(uM c h G [] lc.out lh.out bh.out (some ⟨n0,0,none⟩) 32 32 (by have:=HG.out.1;omega) g7 70 v2 (AC (sB (F.out.at (.tail _ (.tail _ (.tail _ (.head _)))))) HG.out.1 HG.out.2) (F.out.at (.head _)) (HT.out.later F.out.bel (nQ _))).mono ?_
 rintro x v3 ⟨rfl,hT⟩
 rw[EK.out]at hT
 have F2:Hid _:=Rn.turnK (R1:=[]) F.out hT
 clear hT F
 go_wp2_with(first
  | refine wpLr rfl 70 _ rfl g7 rfl _ (fA c k []).toArray _ _ (F2.out.at (.head _)) underlying70 rfl (KQ lc.out lk.out) ?_
  | refine wpPr rfl 70 _ _ rfl (n0+1) (fA c k []).toArray rfl rfl _ _ (F2.out.at (.tail _ (.tail _ (.head _)))) (KQ lc.out lk.out) (afU lc.out lk.out) (abP _ _) ?_)
 intro v4 hP
 have F3:Hid _:=Rn.put2 F2.out hP
 clear hP F2
 go_wp2_with fail
 exact bodyPost_ret (v:=.agg (fA c k []).toArray) (results_cell_row rfl _ _ _ _ (fA c k []).toArray _ _ rfl (F3.out.at (.tail _ (.tail _ (.head _)))) underlying70 rfl (KQ lc.out lk.out)) rfl ⟨rfl,F3.out.bel⟩
def kG (w:World) (B:Nat) (o:Value) (xs:List Int) (k:Nat):Prop:=
 (k=0∧xs=[]∧∃g,o=.slice (some ⟨g,0,none⟩) 0 0)∨(1≤k∧w.ownsRow B 22 32 o k (xs.map (Value.int .u8)))
theorem kG.later {w w':World} {B:Nat} {o:Value} {xs:List Int} {k:Nat} (h:kG w B o xs k) (hb:Below w.heap.size w w'):kG w' B o xs k:=by
 rcases h with h|⟨h0,h1,h2⟩
 ·exact .inl h
 ·refine .inr ⟨h0,h1,h2.imp id ?_⟩
  rintro⟨g,cap,cur,e1,e2,e3,e4⟩
  exact⟨g,cap,cur,e1,e2,(hb.block g (Array.getElem?_eq_some_iff.1 e3).1).trans e3,e4⟩
theorem kG.lt {w:World} {B:Nat} {o:Value} {xs:List Int} {k:Nat} (h:kG w B o xs k) (hk:1≤k) {g:Nat} (e:some g=o.ownBlock):g<w.heap.size:=by
 rcases h with ⟨h,_⟩|⟨_,h⟩
 ·omega
 ·exact(h.lt g e.symm).2
theorem zU {P:Program} {ops:Array Oper} {rest:List Oper} {o:Oper} {a:Act} {w:World} {Q:Exit→Act→World→Prop} (hgd:o.guard=none) (s x:Operand) (t:TypeId)
 (ho:o.op=.call { callee:=.builtin .append,args:=#[s,x],argTypes:=#[t,t] }) (v u:Value) (hs:a.eval s=v) (hx:a.eval x=u) (v':Value) (w':World)
 (hr:(Builtin.append_ #[t,t] o.type #[v,u]).run P w=.ok v' w') (h:wpList P ops Q rest (a.put o.dst v') w'):wpList P ops Q (o::rest) a w:=
 wpList_plain hgd fun _ hK=>by
  unfold Oper.wp execOp
  simp only[ho,resolve,invoke,builtin,Sem.run_bind,Sem.run_pure,Result.andThen_ok,List.map_toArray,List.map_cons,List.map_nil,hs,hx,hr]
  exact hK _ _ h
theorem P7 {w:World} {B:Nat} {o:Value} {xs:List Int} {k:Nat} (h:kG w B o xs k) (hB:B≤w.heap.size) (hk:k≤10) (gt:Nat) (t:List Int) (ht:t.length=32) (hrow:w.heap[gt]? =some (.cells (Iv .u8 t) 22)) (c:Nat) (ty:TypeId):
 ∃v' w',(Builtin.append_ #[37,37] ty #[o,.slice (some ⟨gt,0,none⟩) 1 c]).run prog w=.ok v' w'∧kG w' B v' (xs++t) (k+1)∧Below B w w'∧∀j,j<w.heap.size→(1≤k→some j≠o.ownBlock)→w'.heap[j]? =w.heap[j]? :=by
 obtain⟨i,hi⟩:=info_of_underlying underlying22
 have h2:(prog.info? 22).map (fun i=>(i.zero,i.size,i.bytes))=some (some (.agg (Iv .u8 (aA 32))),32,32):=by kernel_rfl
 rw[hi]at h2
 simp only[Option.map_some,Option.some.injEq,Prod.mk.injEq]at h2
 obtain⟨hz,hsz,hby⟩:=h2
 have hzc:(Value.agg (Iv .u8 (aA 32))).cells.size=32:=by show(Iv .u8 (aA 32)).size=32;rw[aD];rfl
 have hnews:∀j u,(t.map (Value.int .u8))[j]? =some u→w.cell? ((⟨gt,0,none⟩:Addr).add j)=some u:=fun j u hu=>by
  have hj:j<t.length:=by simpa using(List.getElem?_eq_some_iff.1 hu).1
  have e:=aC.cell (show aC w gt .u8 t _ from hrow) j hj
  have e2:(⟨gt,0,none⟩:Addr).add j=⟨gt,j,none⟩:=by unfold Addr.add;split<;>simp_all
  rw[e2,e,←hu]
  simp[List.getD_eq_getElem?_getD,hj]
 rcases h with ⟨rfl,rfl,g,rfl⟩|⟨hk1,hown⟩
 ·have hr:=run_append_grow (P:=prog) w 37 ty 22 i _ underlying37 hi hz ⟨g,0,none⟩ 0 0 [] (by simp) (fun j v hv=>by simp at hv) ⟨gt,0,none⟩ 1 c (t.map (Value.int .u8)) (by rw[lU,ht,hsz]) hnews (by decide) (by decide) (by rw[hby];decide)
  refine⟨_,_,hr,.inr ⟨by decide,by simp[ht],.inr ⟨w.heap.size,_,_,rfl,hB,hAN w.drew _,grownCap_ge _ _ _ _,grownCap_le_maxLen _ _ _ _ (by decide),?_,?_⟩⟩,⟨rfl,rfl,rfl,by simp,fun k hk=>hAO w.drew _ (nJ hk hB)⟩,fun j hj _=>hAO w.drew _ hj⟩
  ·simp only[Array.size_append,List.size_toArray,size_zeroCells,hzc,lU,ht,List.length_nil]
   have:=grownCap_ge w (0+1) 0 22
   omega
  ·simp only[Array.toList_append,nA]
   have e:(0+1)*32=(t.map (Value.int .u8)).length:=by rw[lU,ht]
   rw[e]
   exact List.take_left
 ·obtain⟨v',w',hr,ho,hg,_⟩:=run_append_own (P:=prog) w B 37 ty 22 i _ 32 32 underlying37 hi hz hsz hby hzc (by decide) o k _ hown ⟨gt,0,none⟩ 1 c (t.map (Value.int .u8)) (by rw[lU,ht]) hnews (by simp[Value.oneCell']) (by unfold maxLen;omega) (by omega) hB
  refine⟨v',w',hr,.inr ⟨by omega,by rw[List.map_append];exact ho⟩,⟨hg.os,hg.tape,hg.output,hg.size,fun j hj=>hg.block j (nJ hj hB) ?_⟩,fun j hj hne=>hg.block j hj (hne hk1)⟩
  intro e
  have:=hown.lt j e.symm
  omega
theorem acE (t:List Int) (ht:t.length=32):Instr.fill (fun i=>some (i*32,32)) ((Array.range (1*32)).map ((Value.agg (Iv .u8 (aA 32))).cells[· %(Value.agg (Iv .u8 (aA 32))).cells.size]!)) [(0,.agg (Iv .u8 t))]=some (Iv .u8 t):=by
 match t,ht with
 | [a0,a1,a2,a3,a4,a5,a6,a7,a8,a9,a10,a11,a12,a13,a14,a15,a16,a17,a18,a19,a20,a21,a22,a23,a24,a25,a26,a27,a28,a29,a30,a31],_=>
   show Instr.fill _ _ _=some _
   kernel_rfl
theorem FZ {ops:Array Oper} {rest:List Oper} {o:Oper} {a:Act} {w:World} {Q:Exit→Act→World→Prop} (hg:o.guard=none) (x:Operand) (ho:o.op=.buildSlice 37 1 #[(0,x)]) (t:List Int) (ht:t.length=32) (hx:a.eval x=.agg (Iv .u8 t))
 (h:wpList prog ops Q rest (a.put o.dst (.slice (some ⟨w.heap.size,0,none⟩) 1 1)) (w.alloc (.cells (Iv .u8 t) 22))):wpList prog ops Q (o::rest) a w:=by
 obtain⟨i,hi⟩:=info_of_underlying underlying22
 have h2:(prog.info? 22).map (fun i=>(i.zero,i.size,i.bytes))=some (some (.agg (Iv .u8 (aA 32))),32,32):=by kernel_rfl
 rw[hi]at h2
 simp only[Option.map_some,Option.some.injEq,Prod.mk.injEq]at h2
 obtain⟨hz,hsz,hby⟩:=h2
 refine wpList_buildSlice hg 37 22 1 #[(0,x)] ho (Iv .u8 t) i _ underlying37 hi hz (by rw[hsz];decide) (by rw[hsz];decide) ?_ h
 rw[hsz]
 simp only[List.map_toArray,List.map_cons,List.map_nil,hx]
 exact acE t ht
def GG (R:List Int):Nat→List Int
 | 0=>[]
 | k+1=>fB R k
theorem TA (R:List Int) (k:Nat):gF R (GG R k++[(k:Int)+1])=fB R k:=by
 cases k with
 | zero=>rfl
 | succ k=>
   have e:((k+1:Nat):Int)+1=(k:Int)+2:=by omega
   rw[e]
   rfl
theorem LZ (R:List Int) (k:Nat):(GG R k).length≤32:=by
 cases k with
 | zero=>exact Nat.zero_le _
 | succ k=>exact Nat.le_of_eq (bA R k)
theorem OO (R:List Int) (k:Nat):aE (GG R k):=by
 cases k with
 | zero=>intro i;simp[GG]
 | succ k=>exact k7 R k
set_option maxRecDepth 10000 in
set_option maxHeartbeats 2000000 in
theorem xD (K D:List Int) (kl dl:Nat) (hk64:¬64<kl) (hK:K.length=kl) (hKb:aE K) (hkl:kl≤5000000) (kb ko kcap db dO dcap:Nat) (w:World) (hkc:∀j,j<kl→w.cell? ⟨kb,ko+j,none⟩=some (.int .u8 (K.getD j 0))) (hD:D.length=dl) (hdl:dl≤5000000) (hDb:aE D) (hdb:db<w.heap.size) (hDr:∀j,j<dl→w.cell? ⟨db,dO+j,none⟩=some (.int .u8 (D.getD j 0))) (n:Nat) (hn1:1≤n) (hn2:n≤3) (R:List Int) (HR:Hid (∀x,gF K D=x→x=R)):
 Calls prog 27 #[.int .i64 n,.slice (some ⟨kb,ko,none⟩) kl kcap,.slice (some ⟨db,dO,none⟩) dl dcap] w fun e w'=>∃o B,e=.returned o∧w.heap.size≤B∧kG w' B o (tZ R n) n∧Below w.heap.size w w':=by
 have hzb:=fT
 have HKC:Hid _:=hkc
 have HDR:Hid _:=hDr
 clear hkc hDr
 have h1:((n:Int)<1)=False:=by simp;omega
 have h2:(3<(n:Int))=False:=by simp;omega
 have hRl:R.length=32:=by rw[←HR.out _ rfl];exact lT _ _
 have hRb:aE R:=by rw[←HR.out _ rfl];exact dK _
 have hi32:Hid (∀X:List Int,X.length=32→(prog.info? 22).map (·.size)=some (Iv .u8 X).size):=fun X hX=>by rw[aD,hX];exact iB
 have hz32:Hid (∀X:List Int,X.length=32→(Iv .u8 (aA 32)).size=(Iv .u8 X).size):=fun X hX=>by rw[aD,aD,hX];rfl
 go_enter func27,ntmps27
 go_wp2_with fail
 obtain⟨W,hW⟩:∃X,X=w.alloc (.cells #[] 22):=⟨_,rfl⟩
 have HB:Hid (Below w.heap.size w W):=by show Below _ _ _;rw[hW];exact(Below.refl _ _).alloc (nQ _) _
 have hsW:W.heap.size=w.heap.size+1:=by rw[hW];simp
 rw[←hW]
 clear hW
 refine(qaA K D kl dl hk64 hK hKb hkl kb ko kcap db dO dcap W (fun j hj=>(HB.out.cell (p:=⟨kb,ko+j,none⟩) (wJ _ _ (HKC.out j hj))).trans (HKC.out j hj)) hD hdl hDb (by omega) (fun j hj=>(HB.out.cell (p:=⟨db,dO+j,none⟩) (wJ _ _ (HDR.out j hj))).trans (HDR.out j hj)) R HR).mono ?_
 rintro e w1 ⟨rfl,hb1⟩
 have B1:Hid (Below w.heap.size w w1):=HB.out.trans (hb1.mono HB.out.size)
 have HN1:Hid ((w1.alloc (.cells (Iv .u8 (aA 32)) 22)).heap[w1.heap.size]? =some (.cells (Iv .u8 (aA 32)) 22)):=hAN _ _
 clear hb1 HB HKC HDR
 go_wp2_with(refine wpPr rfl 22 _ _ rfl w1.heap.size (Iv .u8 R) rfl rfl _ _ HN1.out (hi32.out R hRl) (hz32.out R hRl) (aG _ _) ?_)
 intro w2 hP2
 have B2:Hid (Below w.heap.size w w2):=hP2.below _ _ (B1.out.alloc B1.out.size _) B1.out.size
 have A1:Hid (w2.heap[w1.heap.size]? =some (.cells (Iv .u8 R) 22)):=hP2.here
 have hs2:w1.heap.size<w2.heap.size:=by rw[hP2.size];simp
 have hg1:=B1.out.size
 obtain⟨gr,hgr⟩:∃x,x=w1.heap.size:=⟨_,rfl⟩
 rw[←hgr]at A1 hs2 hg1⊢
 clear hP2 HN1 B1 hgr
 have LE:Hid (oE (w2.alloc (.cells #[] 5)) w2.heap.size 0 []):=⟨by simp,fun j hj=>by simp at hj⟩
 have B3:Hid (Below w.heap.size w (w2.alloc (.cells #[] 5))):=B2.out.alloc B2.out.size _
 have A3:Hid ((w2.alloc (.cells #[] 5)).heap[gr]? =some (.cells (Iv .u8 R) 22)):=(hAO _ _ hs2).trans A1.out
 go_wp2_with fail
 go_loopw [7,9,10] (fun o b i wr=>∃(k gb c:Nat),k≤n∧i=.int .i64 ((k:Int)+1)∧Below w.heap.size w wr∧wr.heap[gr]? =some (.cells (Iv .u8 R) 22)∧kG wr (gr+1) o (tZ R k) k∧b=.slice (some ⟨gb,0,none⟩) (GG R k).length c∧oE wr gb 0 (GG R k)) (fun _ _ i _=>4 - (intOf i).toNat)
 case atStart=>exact⟨0,_,_,Nat.zero_le _,rfl,B3.out,A3.out,.inl ⟨rfl,rfl,_,rfl⟩,rfl,LE.out⟩
 case round=>
  obtain⟨k,gb,c,hk,rfl,hbr,hr1,hout,rfl,hlies⟩:=hrel
  clear B2 A1 LE B3 A3
  have RB:Hid _:=hbr
  have R1:Hid _:=hr1
  have RO:Hid (kG wr (gr+1) u7 (tZ R k) k):=hout
  have RL:Hid (oE wr gb 0 (GG R k)):=hlies
  have hsr:gr<wr.heap.size:=(Array.getElem?_eq_some_iff.1 hr1).1
  clear hbr hr1 hout hlies
  obtain⟨q,hq⟩:∃q:Int,(k:Int)+1=q:=⟨_,rfl⟩
  have hq1:1≤q:=by omega
  have hq2:q≤4:=by omega
  have hbl:=LZ R k
  have hbb:=OO R k
  have HBN:Hid (gF R (GG R k++[q])=fB R k):=by show _=_;rw[←hq];exact TA R k
  obtain⟨L,hL⟩:∃L,GG R k=L:=⟨_,rfl⟩
  rw[hL]at RL hbl hbb HBN
  rw[hq,hL]
  have HQ:Hid _:=hq
  clear hq hL
  by_cases hlt:k<n
  ·have hle:q≤(n:Int):=by have:=HQ.out;omega
   have hle':(q≤(n:Int))=True:=by simp[hle]
   go_wp2_with(refine wpLr rfl 22 _ rfl gr rfl _ (Iv .u8 R) _ _ R1.out underlying22 rfl (hi32.out R hRl) ?_)
   refine(s8 R hRl wr).mono ?_
   rintro e w3 ⟨x,rfl,hox,hb3⟩
   obtain⟨gx,cx,rfl,hgx,hlx,hcx1,hcx2⟩:=hox.lies
   have hgx':gx<w3.heap.size:=hlx.1
   have XB:Hid (Below w.heap.size w w3):=RB.out.trans (hb3.mono RB.out.size)
   have X1:Hid _:=(hb3.block gr hsr).trans R1.out
   have XO:Hid (kG w3 (gr+1) u7 (tZ R k) k):=RO.out.later hb3
   have XL:Hid (oE w3 gb 0 L):=RL.out.later hb3 RL.out.1
   have XX:Hid (oE w3 gx 0 R):=hlx
   have hgb:gb<w3.heap.size:=XL.out.1
   have hsx:gr<w3.heap.size:=by have:=hb3.size;omega
   clear hox hb3 hlx RB R1 RO RL
   go_wp2_with fail
   have HB4:Below w3.heap.size w3 (w3.alloc (.cells #[.int .u8 q] 5)):=(Below.refl _ _).alloc (nQ _) _
   have hq8:aE [q]:=by intro i;match i with|0=>exact⟨by show 0≤q;omega,by show q≤255;omega⟩|i+1=>simp
   obtain⟨W4,hW4⟩:∃X,X=w3.alloc (.cells #[.int .u8 q] 5):=⟨_,rfl⟩
   have LQ:Hid (oE W4 w3.heap.size 0 [q]):=⟨by rw[hW4];simp,fun j hj=>by
    obtain rfl:j=0:=by simpa using hj
    have hh:W4.heap[w3.heap.size]? =some (.cells #[.int .u8 q] 5):=by rw[hW4];exact hAN _ _
    rw[cell_of_row _ _ _ _ _ _ hh];rfl⟩
   rw[←hW4]at HB4⊢
   clear hW4
   have YB:Hid (Below w.heap.size w W4):=XB.out.trans (HB4.mono XB.out.size)
   have Y1:Hid _:=(HB4.block gr hsx).trans X1.out
   have YO:Hid (kG W4 (gr+1) u7 (tZ R k) k):=XO.out.later HB4
   have YL:Hid (oE W4 gb 0 L):=XL.out.later HB4 hgb
   have YX:Hid (oE W4 gx 0 R):=XX.out.later HB4 hgx'
   have hs4:=HB4.size
   clear HB4 XB X1 XO XL XX
   refine(pU gb 0 c w3.heap.size 0 1 L [q] L.length 1 rfl rfl (by omega) (by simp) W4 YL.out LQ.out).mono ?_
   rintro e w5 ⟨x,rfl,hoy,hb5⟩
   obtain⟨gy,cy,rfl,hgy,hly,hcy1,hcy2⟩:=hoy.lies
   have hll:(L++[q]).length=L.length+1:=by simp
   rw[hll]
   have ZB:Hid (Below w.heap.size w w5):=YB.out.trans (hb5.mono YB.out.size)
   have Z1:Hid _:=(hb5.block gr (by omega)).trans Y1.out
   have ZO:Hid (kG w5 (gr+1) u7 (tZ R k) k):=YO.out.later hb5
   have ZX:Hid (oE w5 gx 0 R):=YX.out.later hb5 (by omega)
   have ZY:Hid (oE w5 gy 0 (L++[q])):=hly
   have hs5:=hb5.size
   clear hoy hb5 hly YB Y1 YO YL YX LQ
   go_wp2_with fail
   refine(qaA R (L++[q]) 32 (L.length+1) (by decide) hRl hRb (by decide) gx 0 cx gy 0 cy w5 (fun j hj=>ZX.out.2 j (by omega)) hll (by omega) (aY hbb hq8) ZY.out.1 (fun j hj=>ZY.out.2 j (by omega)) (fB R k) (fun x hx=>by rw[←hx];exact HBN.out)).mono ?_
   rintro e w6 ⟨rfl,hb6⟩
   have VB:Hid (Below w.heap.size w w6):=ZB.out.trans (hb6.mono ZB.out.size)
   have V1:Hid _:=(hb6.block gr (by omega)).trans Z1.out
   have VO:Hid (kG w6 (gr+1) u7 (tZ R k) k):=ZO.out.later hb6
   have hs6:=hb6.size
   have HN6:Hid ((w6.alloc (.cells (Iv .u8 (aA 32)) 22)).heap[w6.heap.size]? =some (.cells (Iv .u8 (aA 32)) 22)):=hAN _ _
   clear hb6 ZB Z1 ZO ZX ZY
   go_wp2_with(refine wpPr rfl 22 _ _ rfl w6.heap.size (Iv .u8 (fB R k)) rfl rfl _ _ HN6.out (hi32.out _ (bA R k)) (hz32.out _ (bA R k)) (aG _ _) ?_)
   intro w7 hP7
   have UB:Hid (Below w.heap.size w w7):=hP7.below _ _ (VB.out.alloc VB.out.size _) VB.out.size
   have HW7:Below w6.heap.size w6 w7:=hP7.below _ _ ((Below.refl _ _).alloc (nQ _) _) (nQ _)
   have U1:Hid _:=(HW7.block gr (by omega)).trans V1.out
   have UO:Hid (kG w7 (gr+1) u7 (tZ R k) k):=VO.out.later HW7
   have GO:Hid (1≤k→∀{g:Nat},some g=u7.ownBlock→g<w6.heap.size):=fun h1 g e=>kG.lt VO.out h1 e
   have UT:Hid (w7.heap[w6.heap.size]? =some (.cells (Iv .u8 (fB R k)) 22)):=hP7.here
   have hs7:w6.heap.size<w7.heap.size:=by rw[hP7.size];simp
   obtain⟨gt,hgt⟩:∃x,x=w6.heap.size:=⟨_,rfl⟩
   rw[←hgt]at UT hs7 hs6 GO⊢
   clear hP7 HW7 HN6 VB V1 VO hgt
   go_wp2_with(first
    | refine wpLr rfl 22 _ rfl gt rfl _ (Iv .u8 (fB R k)) _ _ UT.out underlying22 rfl (hi32.out _ (bA R k)) ?_
    | (refine FZ rfl (.tmp 37) rfl (fB R k) (bA R k) rfl (sH ?_)))
   refine aH ?_
   have HB8:Below w7.heap.size w7 (w7.alloc (.cells (Iv .u8 (fB R k)) 22)):=(Below.refl _ _).alloc (nQ _) _
   have hs8:(w7.alloc (.cells (Iv .u8 (fB R k)) 22)).heap.size=w7.heap.size+1:=by simp
   have hlo:1≤k→some gt≠u7.ownBlock:=fun h1 e=>by have:=GO.out h1 e;omega
   obtain⟨v9,w9,hr9,ho9,hb9,hf9⟩:=P7 (kG.later UO.out HB8) (by omega) (by omega) w7.heap.size (fB R k) (bA R k) (hAN _ _) 1 37
   refine zU rfl (.tmp 36) (.tmp 38) 37 rfl u7 (.slice (some ⟨w7.heap.size,0,none⟩) 1 1) rfl rfl v9 w9 hr9 ?_
   have TB:Hid (Below w.heap.size w w9):=(UB.out.alloc UB.out.size _).trans (hb9.mono (by omega))
   have T1:Hid (w9.heap[gr]? =some (.cells (Iv .u8 R) 22)):=(hb9.block gr (by omega)).trans ((HB8.block gr (by omega)).trans U1.out)
   have TT:Hid (w9.heap[gt]? =some (.cells (Iv .u8 (fB R k)) 22)):=(hf9 gt (by omega) hlo).trans ((HB8.block gt hs7).trans UT.out)
   have TO:Hid (kG w9 (gr+1) v9 (tZ R (k+1)) (k+1)):=ho9
   have hs9:=hb9.size
   clear hr9 ho9 hb9 hf9 HB8 UB U1 UT UO GO
   simp only[Act.put]
   go_wp2_with(refine wpLr rfl 22 _ rfl gt rfl _ (Iv .u8 (fB R k)) _ _ TT.out underlying22 rfl (hi32.out _ (bA R k)) ?_)
   refine(s8 (fB R k) (bA R k) w9).mono ?_
   rintro e w10 ⟨x,rfl,hoz,hb10⟩
   obtain⟨gz,cz,rfl,hgz,hlz,hcz1,hcz2⟩:=hoz.lies
   have SB:Hid (Below w.heap.size w w10):=TB.out.trans (hb10.mono TB.out.size)
   have S1:Hid _:=(hb10.block gr (by omega)).trans T1.out
   have SO:Hid (kG w10 (gr+1) v9 (tZ R (k+1)) (k+1)):=kG.later TO.out hb10
   have SL:Hid (oE w10 gz 0 (GG R (k+1))):=hlz
   clear hoz hb10 hlz TB T1 TT TO
   go_wp2_with fail
   go_roundw
   case rel=>exact⟨k+1,gz,cz,by omega,by rw[←HQ.out];simp,SB.out,S1.out,SO.out,rfl,SL.out⟩
   case measure=>simp[intOf];omega
  ·have hkn:k=n:=by omega
   subst hkn
   have hle':(q≤(k:Int))=False:=by have:=HQ.out;simp;omega
   go_wp2
   go_ret
   exact⟨_,gr+1,rfl,by omega,RO.out,RB.out⟩
end Go.Proofs.YtgcepckaolkeoaaGreatDoor
