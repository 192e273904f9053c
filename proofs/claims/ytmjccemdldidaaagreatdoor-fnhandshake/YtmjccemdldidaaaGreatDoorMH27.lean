import Derived.Test.YtmjccemdldidaaaGreatDoorMH26
import Derived.Test.YtmjccemdldidaaaGreatDoorMH20
import Derived.Test.YtmjccemdldidaaaGreatDoorMH22
import Derived.Lib.BytesEntry
import Derived.Laws.IdiomStrings
namespace Go.Proofs.YtmjccemdldidaaaGreatDoor
open Go.RowKit
open Go.Proofs.Tryz
open Go renaming heap_alloc_new → hAN, wpList_load_row → wpLr, wpQuiet_nil → wqN
open List renaming drop_succ_cons → dJ, drop_zero → dY, length_map → lU, take_succ_cons → tU, take_zero → tJ
open Nat renaming le_refl → nQ
set_option linter.unusedVariables false
set_option maxHeartbeats 4000000
set_option maxRecDepth 10000
theorem JH:GT 118:=fun K zs b cap W hK hKb hzb hl hc hc2 hS=>ac5 K zs zs.length b 0 cap W rfl hK hKb hzb hS.1 hc hc2 hS.2
theorem VC:GT 75:=fun K zs b cap W hK hKb hzb hl hc hc2 hS=>adG K zs zs.length (some ⟨b,0,none⟩) cap W rfl (by omega) hK hKb hzb (fun i hi=>⟨b,0,rfl,hS.1,hS.2 i hi⟩)
theorem XS:prog.plainKey 5=true:=by kernel_rfl
theorem P6 (d:Nat) (A M:LI) (w:World):∀is:List Nat,(∀i∈is,i<A.length∧i<M.length)→
 (Op.eqItems (d+1) 5 1 (Iv .u8 A) (Iv .u8 M) is).run prog w=.ok (is.all fun i=>A.getD i 0==M.getD i 0) w
 | [],_=>by simp[Op.eqItems]
 | i::is,h=>by
   obtain⟨h1,h2⟩:=h i (by simp)
   have ih:=P6 d A M w is (fun j hj=>h j (by simp[hj]))
   have p1:=run_part_plain (P:=prog) w XS (dG .u8 A i h1)
   have p2:=run_part_plain (P:=prog) w XS (dG .u8 M i h2)
   rw[show A[i]=A.getD i 0 by simp[List.getD_eq_getElem?_getD,h1]]at p1
   rw[show M[i]=M.getD i 0 by simp[List.getD_eq_getElem?_getD,h2]]at p2
   simp only[Op.eqItems,Nat.mul_one,Sem.run_bind,p1,p2,Result.andThen_ok,run_equalIn_int w d 5 .u8 .u8 _ _ underlying5,List.all_cons]
   cases A.getD i 0==M.getD i 0<;>simp only[Bool.not_false,Bool.not_true,Bool.false_eq_true,if_true,if_false,Bool.false_and,Bool.true_and,Sem.run_pure]
   exact ih
theorem abQ (A M:LI) (n:Nat) (hA:A.length=n) (hM:M.length=n):((List.range n).all fun i=>A.getD i 0==M.getD i 0)=decide (A=M):=by
 by_cases h:A=M
 ·subst h
  simp
 ·rw[decide_eq_false h]
  rw[Bool.eq_false_iff]
  intro hall
  apply h
  apply List.ext_getElem (by omega)
  intro i h1 h2
  rw[List.all_eq_true]at hall
  have:=hall i (by simp;omega)
  simpa[List.getD_eq_getElem?_getD,h1,h2]using this
theorem ai6 (A M:LI) (hA:A.length=16) (hM:M.length=16) (w:World):(Op.equalIn 10000 35 (.agg (Iv .u8 A)) (.agg (Iv .u8 M))).run prog w=.ok (decide (A=M)) w:=by
 obtain⟨i,hi⟩:=info_of_underlying underlying5
 have hc:prog.cellsOf 5=1:=by kernel_rfl
 rw[←abQ A M 16 hA hM,run_equalIn_array w 9999 _ _ underlying35 hi,hc]
 exact P6 9998 A M w _ (fun i hi=>by simp at hi;omega)
theorem PE {P:Program} {ops:Array Oper} {C:World→Prop} {Q:Act→Prop} {a:Act} {o:Oper} {rest:List Oper} (hgd:o.guard=none) (t t':TypeId) (x y:Operand) (ho:o.op=.binOp .neq t x y t') (xs ys:Array Value) (hx:a.eval x=.agg xs) (hy:a.eval y=.agg ys) (r:Bool)
 (he:∀w,(Op.equalIn 10000 t (.agg xs) (.agg ys)).run P w=.ok r w) (hm:P.eqGuardType P.depth t=false)
 (h:wpQuiet P ops C Q rest (a.put o.dst (.bool !r))):wpQuiet P ops C Q (o::rest) a:=by
 refine aB hgd (.bool !r) (fun w=>?_) h
 unfold execOp
 simp only[ho,hx,hy,Sem.run_bind,run_eqGuard_agg w .neq t x y xs ys hm,run_neq_struct,he w,Result.andThen_ok,Sem.run_pure]
theorem N7:(prog.info? (prog.elem 22)).map (·.size)=some 1:=by kernel_rfl
theorem acC:prog.eqGuardType prog.depth 35=false:=by kernel_rfl
theorem J9 (HPO:Hid (GT 118)) (key nonce:LI) (hk:key.length=32) (hr:nonce.length=12) (B:Nat→LI) (hB:∀i,(B i).length=64) (HC:Hid (AA 117 key nonce B gU)) (hBb:∀i,aC (B i))
 (box E H G:LI) (n m:Nat) (hH:H=box.take n) (hG:G=box.drop n) (hbl:box.length=n+16) (hm:E.length=m) (hn2:n≤65536) (hm2:m≤65536) (hbb:aC box) (hEb:aC E) (tg to_ tc eg eo ec:Nat) (w:World) (HST:Hid (Sl w tg to_ box)) (HSE:Hid (Sl w eg eo E)) (htc:n+16≤tc) (htc2:tc≤9223372036854775807) (HT:Hid (gU w))
 (T:LI) (hT:Hid (FY B E H=T)):
 Calls prog 87 #[.agg (Iv .u8 key),.agg (Iv .u8 nonce),.slice (some ⟨tg,to_,none⟩) (n+16) tc,.slice (some ⟨eg,eo,none⟩) m ec] w fun e w'=>
  (T=G→∃v,e=.returned (.tuple #[v,.bool true])∧bM .u8 5 w.heap.size w' v (iW B H n)∧v.ownBlock≠none)∧(T≠G→e=.returned (.tuple #[.slice none 0 0,.bool false]))∧Below w.heap.size w w':=by
 have hHl:H.length=n:=by rw[hH,List.length_take];omega
 have hGl:G.length=16:=by rw[hG,List.length_drop];omega
 have hHb:aC H:=by rw[hH];exact dB hbb n
 have hTl:T.length=16:=by rw[←hT.out];exact qN _ _
 have hi32:Hid ((prog.info? 25).map (·.size)=some (Iv .u8 key).size):=by show _=_;rw[aD,hk];exact sF
 have hi12:Hid ((prog.info? 30).map (·.size)=some (Iv .u8 nonce).size):=by show _=_;rw[aD,hr];exact uR
 obtain⟨W,hW,g0,g1,hs,hBW⟩:=iU w (.cells (Iv .u8 key) 25) (.cells (Iv .u8 nonce) 30)
 have HW:Hid _:=hW
 have G0:Hid _:=g0
 have G1:Hid _:=g1
 have GB:Hid _:=hBW
 have SB:Hid _:=Sl.later HST.out hBW HST.out.1
 have SH:Hid (Sl W tg to_ H):=by show Sl _ _ _ _;rw[hH];exact Sl.take SB.out n
 have SG:Hid (Sl W tg (to_+n) G):=by show Sl _ _ _ _;rw[hG];exact Sl.drop SB.out n
 have SE:Hid _:=Sl.later HSE.out hBW HSE.out.1
 have HT2:Hid _:=gU.later HT.out hBW (nQ _)
 clear hW g0 g1 hBW hH hG
 have hx0:((n:Int)+16 - 16)=n:=by omega
 have hx1:((n:Int)<0)=False:=eq_false (by omega)
 have hx2:((65536:Int)<n)=False:=by simp;omega
 have hx3:((65536:Int)<m)=False:=by simp;omega
 go_enter func87,ntmps87
 go_wp2_with(first
  | (rw[HW.out];refine sH ?_))
 refine aH ?_
 go_wp2_with fail
 refine tC W.heap.size W I8 (by kernel_rfl) (Below.refl _ _) ?_
 have r0:∀w',(∃x:yM W.heap.size W,w'=x.w)→w'.heap[w.heap.size]? =some (.cells (Iv .u8 key) 25):=fun w' ⟨x,hx⟩=>by subst hx;exact(x.bel.block _ (by omega)).trans G0.out
 have r1:∀w',(∃x:yM W.heap.size W,w'=x.w)→w'.heap[w.heap.size+1]? =some (.cells (Iv .u8 nonce) 30):=fun w' ⟨x,hx⟩=>by subst hx;exact(x.bel.block _ (by omega)).trans G1.out
 have rG:∀w',(∃x:yM W.heap.size W,w'=x.w)→w'.rangeAt tg (to_+n) (G.map (Value.int .u8)):=fun w' ⟨x,hx⟩=>by
  subst hx
  intro j v hj
  have hj2:j<G.length:=by have:=(List.getElem?_eq_some_iff.1 hj).1;simpa using this
  have:=(Sl.later SG.out x.bel SG.out.1).2 j hj2
  rw[this]
  simp[List.getElem?_map,List.getElem?_eq_getElem hj2]at hj
  simp[List.getD_eq_getElem?_getD,hj2,hj]
 have R0:Hid _:=r0
 have R1:Hid _:=r1
 have RG:Hid _:=rG
 clear r0 r1 rG
 refine wqLr rfl 25 _ rfl w.heap.size rfl _ (Iv .u8 key) _ _ R0.out underlying25 rfl hi32.out ?_
 simp only[pS]
 refine wqLr rfl 30 _ rfl (w.heap.size+1) rfl _ (Iv .u8 nonce) _ _ R1.out underlying30 rfl hi12.out ?_
 simp only[pS]
 go_big_quiet_step (fail)
 go_big_quiet_step (fail)
 go_big_quiet_step (exact Y5 _ (nQ _) (H8 HPO key nonce hk hr B hB HC hBb H E n m hHl hm hn2 hm2 hHb hEb tg to_ tc eg eo ec _ (Sl.later SH.out (yM.bel _) SH.out.1) (Sl.later SE.out (yM.bel _) SE.out.1) (gU.later HT2.out (yM.bel _) (nQ _)) T hT))
 go_big_quiet_step (fail)
 go_big_quiet_step (fail)
 refine aB rfl (.slice (some ⟨tg,to_+n,none⟩) 16 (tc - n)) (fun w=>by
  have h:=SA (P:=prog) (o:={ dst:=some 36,op:=Op.slice 22 (Operand.tmp 34) (some (Operand.tmp 35)) none none,type:=22,pos:= "l2_aead.go:225",after:=#[{ on:=5,ground:=Ground.data },{ on:=6,ground:=Ground.data }],guard:=none }) (ρ:=fun x=>match x with| .tmp 34=>.slice (some ⟨tg,to_,none⟩) (n+16) tc|_=>.int .i64 n) 22 (.tmp 34) (.tmp 35) rfl tg to_ (n+16) tc n rfl rfl underlying22 N7 (by omega) (by omega) w
  rw[show n+16 - n=16 by omega]at h
  exact h) ?_
 simp only[pS]
 refine aB rfl (.pointer (some ⟨tg,to_+n,none⟩)) (fun w=>by rfl) ?_
 simp only[pS]
 refine wqLm rfl 35 _ rfl tg (to_+n) rfl (G.map (Value.int .u8)) _ RG.out underlying35 rfl (by rw[lU,hGl];exact AV) ?_
 rw[show(G.map (Value.int .u8)).toArray=Iv .u8 G from rfl]
 simp only[pS]
 refine PE rfl 35 35 (.tmp 33) (.tmp 38) rfl (Iv .u8 T) (Iv .u8 G) rfl rfl (decide (T=G)) (ai6 T G hTl hGl) acC ?_
 simp only[pS]
 refine wqN ?_
 intro w3 hb3
 have hs3:=hb3.size
 have WB:Hid _:=GB.out.trans (hb3.mono (by omega))
 have K0:Hid _:=(hb3.block w.heap.size (by omega)).trans G0.out
 have K1:Hid _:=(hb3.block (w.heap.size+1) (by omega)).trans G1.out
 have SH3:Hid _:=Sl.later SH.out hb3 SH.out.1
 have HT3:Hid _:=gU.later HT.out WB.out (nQ _)
 clear hb3 R0 R1 RG G0 G1 SB SG SE
 by_cases hTG:T=G
 ·have hd:(!decide (T=G))=false:=by simp[hTG]
  rw[hd]
  clear hd
  have HTG:Hid _:=hTG
  clear hTG
  go_wp2_with(with_reducible refine aJ ?_;first
   | refine wpLr rfl 25 _ rfl w.heap.size rfl _ (Iv .u8 key) _ _ K0.out underlying25 rfl hi32.out ?_
   | refine wpLr rfl 30 _ rfl (w.heap.size+1) rfl _ (Iv .u8 nonce) _ _ K1.out underlying30 rfl hi12.out ?_)
  refine(BS key nonce hk hr B hB HC hBb H n hHl hn2 hHb tg to_ tc w3 SH3 (by omega) htc2 HT3).mono ?_
  rintro e w4 ⟨g4,rfl,o4,b4⟩
  have O4:Hid (bM .u8 5 w.heap.size w4 (.slice (some ⟨g4,0,none⟩) n (n+16)) (iW B H n)):=bM.mono o4 (by omega)
  have B4:Hid (Below w.heap.size w w4):=WB.out.trans (b4.mono (by omega))
  clear o4 b4
  go_wp2
  exact bodyPost_ret (v:=.tuple #[.slice (some ⟨g4,0,none⟩) n (n+16),.bool true]) (by rw[results_tmp2 rfl];rfl) rfl ⟨fun _=>⟨_,rfl,O4.out,by simp[Value.ownBlock]⟩,fun h=>absurd HTG.out h,B4.out⟩
 ·have hd:(!decide (T=G))=true:=by simp[hTG]
  rw[hd]
  clear hd
  have HTG:Hid _:=hTG
  clear hTG
  go_wp2
  exact bodyPost_ret (v:=.tuple #[.slice none 0 0,.bool false]) (by rw[results_tmp2 rfl];rfl) rfl ⟨fun h=>absurd h HTG.out,fun _=>rfl,WB.out⟩
theorem GA {P:Program} {w:World} {g o:Nat} {l:LI} (h:Sl w g o l) (hb:aC l) (src dst e:TypeId) (cap:Nat)
 (hs:P.underlying src=some (.slice e)) (he:P.underlying e=some (.int .u8)) (hd:P.underlying dst=some .string):
 (convert src dst (.slice (some ⟨g,o,none⟩) l.length cap)).run P w=.ok (.string ⟨(Lib.bytesOf l).toArray⟩) w:=by
 have:=run_convert_bytes_back (P:=P) w src dst e ⟨g,o,none⟩ cap (Lib.bytesOf l) hs he hd (by
  intro j hj
  have hj':j<l.length:=by simpa[Lib.bytesOf]using hj
  have hl:=hb j
  have hadd:(⟨g,o,none⟩:Addr).add j=⟨g,o+j,none⟩:=by unfold Addr.add;split<;>simp_all
  rw[hadd,h.2 j hj']
  simp only[List.getD_eq_getElem?_getD,List.getElem?_eq_getElem hj',Option.getD_some]at hl⊢
  simp[Lib.bytesOf]
  omega)
 simpa[Lib.bytesOf]using this
theorem YI (A M:LI) (hA:aC A) (hM:aC M) (hl:A.length=M.length) (h:(⟨(Lib.bytesOf A).toArray⟩:ByteArray)=⟨(Lib.bytesOf M).toArray⟩):A=M:=by
 have h1:Lib.bytesOf A=Lib.bytesOf M:=by
  have:=congrArg (fun b:ByteArray=>b.data.toList) h
  simpa using this
 apply List.ext_getElem hl
 intro i h2 h3
 have a1:=hA i
 have a2:=hM i
 simp only[List.getD_eq_getElem?_getD,List.getElem?_eq_getElem h2,List.getElem?_eq_getElem h3,Option.getD_some]at a1 a2
 have e:(Lib.bytesOf A)[i]? =(Lib.bytesOf M)[i]? :=by rw[h1]
 simp[Lib.bytesOf,h2,h3]at e
 have e2:=congrArg UInt8.toNat e
 simp at e2
 omega
theorem SN (K zs:LI):aC (gQ K zs):=by
 unfold gQ fY
 exact tO _ _ (fun i=>by omega)
theorem KR (HPO:Hid (GT 75)) (key nonce:LI) (hk:key.length=32) (hr:nonce.length=12) (B:Nat→LI) (hB:∀i,(B i).length=64) (HC:Hid (AA 72 key nonce B (fun _=>True))) (hBb:∀i,aC (B i))
 (box E H G:LI) (n m:Nat) (hH:H=box.take n) (hG:G=box.drop n) (hbl:box.length=n+16) (hm:E.length=m) (hn2:n≤65536) (hm2:m≤65536) (hbb:aC box) (hEb:aC E) (tg to_ tc eg eo ec:Nat) (w:World) (HST:Hid (Sl w tg to_ box)) (HSE:Hid (Sl w eg eo E)) (htc:n+16≤tc) (htc2:tc≤9223372036854775807)
 (T:LI) (hT:Hid (FY B E H=T)):
 Calls prog 30 #[.agg (Iv .u8 key),.agg (Iv .u8 nonce),.slice (some ⟨tg,to_,none⟩) (n+16) tc,.slice (some ⟨eg,eo,none⟩) m ec] w fun e w'=>
  (T=G→∃v,e=.returned (.tuple #[v,.bool true])∧bM .u8 5 w.heap.size w' v (iW B H n)∧v.ownBlock≠none)∧(T≠G→e=.returned (.tuple #[.slice none 0 0,.bool false]))∧Below w.heap.size w w':=by
 have hHl:H.length=n:=by rw[hH,List.length_take];omega
 have hGl:G.length=16:=by rw[hG,List.length_drop];omega
 have hHb:aC H:=by rw[hH];exact dB hbb n
 have hTl:T.length=16:=by rw[←hT.out];exact qN _ _
 have hi32:Hid ((prog.info? 25).map (·.size)=some (Iv .u8 key).size):=by show _=_;rw[aD,hk];exact sF
 have hi12:Hid ((prog.info? 30).map (·.size)=some (Iv .u8 nonce).size):=by show _=_;rw[aD,hr];exact uR
 have hzv:=GP
 have hi16:Hid (∀l:LI,l.length=16→(prog.info? 35).map (·.size)=some (Iv .u8 l).size):=fun l hl=>by rw[aD,hl];exact AV
 have hz16:Hid (∀l:LI,l.length=16→(Iv .u8 (aA 16)).size=(Iv .u8 l).size):=fun l hl=>by rw[aD,aD,hl];simp[aA]
 have hTb:aC T:=by rw[←hT.out];exact SN _ _
 have hGb:aC G:=by rw[hG];exact cE hbb n
 obtain⟨W,hW,g0,g1,hs,hBW⟩:=iU w (.cells (Iv .u8 key) 25) (.cells (Iv .u8 nonce) 30)
 have HW:Hid _:=hW
 have G0:Hid _:=g0
 have G1:Hid _:=g1
 have GB:Hid _:=hBW
 have SB:Hid _:=Sl.later HST.out hBW HST.out.1
 have SH:Hid (Sl W tg to_ H):=by show Sl _ _ _ _;rw[hH];exact Sl.take SB.out n
 have SG:Hid (Sl W tg (to_+n) G):=by show Sl _ _ _ _;rw[hG];exact Sl.drop SB.out n
 have SE:Hid _:=Sl.later HSE.out hBW HSE.out.1
 clear hW g0 g1 hBW hH hG
 have hx0:((n:Int)+16 - 16)=n:=by omega
 have hx1:((n:Int)<0)=False:=eq_false (by omega)
 have hx2:((65536:Int)<n)=False:=by simp;omega
 have hx3:((65536:Int)<m)=False:=by simp;omega
 go_enter func30,ntmps30
 go_wp2_with(first
  | (rw[HW.out];refine sH ?_))
 refine aH ?_
 go_wp2_with fail
 have BD:Hid (Below W.heap.size W W.drew):=bDr (Below.refl _ _) 1
 have LB:Hid (w.heap.size+1<W.heap.size):=by show _<_;omega
 have CT:Hid (∀W' (hw':Below W.heap.size W W'),_):=fun w' hw'=>ZW HPO key nonce hk hr B hB HC hBb H E n m hHl hm hn2 hm2 hHb hEb tg to_ tc eg eo ec w' (Sl.later SH.out hw' SH.out.1) (Sl.later SE.out hw' SE.out.1) T hT
 refine wRt 8 (fun v=>Below W.heap.size W v) (.held [0,1,2,3,4,5] (.fork 6 (.tail 7 (.last 8 .done)) 7 (.tail 6 (.last 8 .done)))) I8 (by kernel_rfl) BD.out ?_
 obtain⟨y0,ey⟩:∃y,y=W.drew:=⟨_,rfl⟩
 rw[←ey]at BD⊢
 clear ey
 refine wTh ?_
 simp only[oS]
 refine wqLr rfl 25 _ rfl w.heap.size rfl _ (Iv .u8 key) _ _ (fun w' hw'=>(hw'.block _ (by have:=LB.out;omega)).trans G0.out) underlying25 rfl hi32.out ?_
 simp only[pS]
 refine wqLr rfl 30 _ rfl (w.heap.size+1) rfl _ (Iv .u8 nonce) _ _ (fun w' hw'=>(hw'.block _ LB.out).trans G1.out) underlying30 rfl hi12.out ?_
 simp only[pS]
 refine aB rfl (.slice (some ⟨tg,to_,none⟩) (n+16) tc) (fun w'=>by kernel_rfl) ?_
 simp only[pS]
 refine aB rfl (.int .i64 n) (fun w'=>by kernel_rfl) ?_
 simp only[pS]
 refine aB rfl (.slice (some ⟨tg,to_,none⟩) n tc) (fun w'=>adB _ _ _ rfl tg to_ (n+16) tc n rfl rfl underlying22 N7 (by omega) w') ?_
 simp only[pS]
 refine aB rfl (.slice (some ⟨eg,eo,none⟩) m ec) (fun w'=>by kernel_rfl) ?_
 simp only[pS]
 refine wqN ?_
 apply cT (.last 8 .done) (fun g v=>Below W.heap.size W v∧W.heap.size≤g∧v.heap[g]? =some (.cells (Iv .u8 (aA 16)) 35))
 intro hZ
 ·refine wTf ?_ ?_
  ·simp only[oS]
   go_wp2_with fail
   refine(CT.out y0 BD.out).mono ?_
   rintro e Z ⟨rfl,hb⟩
   have B2:Hid (Below W.heap.size W Z):=BD.out.trans (hb.mono BD.out.size)
   clear hb
   go_wp2_with fail
   refine⟨B2.out,?_⟩
   refine wTt ?_
   simp only[oS]
   go_wp2_with fail
   have A:Below W.heap.size W (Z.alloc (.cells (Iv .u8 (aA 16)) 35)):=B2.out.alloc B2.out.size _
   have A2:=hAN Z (.cells (Iv .u8 (aA 16)) 35)
   refine⟨A,?_⟩
   obtain⟨g,eg⟩:∃g,g=Z.heap.size:=⟨_,rfl⟩
   rw[←eg]at A2⊢
   exact hZ.out g _ ⟨A,by rw[eg];exact B2.out.size,A2⟩
  ·simp only[oS]
   go_wp2_with fail
   have A:Hid (Below W.heap.size W (y0.alloc (.cells (Iv .u8 (aA 16)) 35))):=BD.out.alloc BD.out.size _
   have A2:Hid _:=hAN y0 (.cells (Iv .u8 (aA 16)) 35)
   refine⟨A.out,?_⟩
   obtain⟨g,eg⟩:∃g,g=y0.heap.size:=⟨_,rfl⟩
   have hgl:Hid (W.heap.size≤g):=by show _≤_;rw[eg];exact BD.out.size
   rw[←eg]at A2⊢
   clear eg
   refine wTt ?_
   simp only[oS]
   go_wp2_with fail
   refine(CT.out _ A.out).mono ?_
   rintro e Z ⟨rfl,hb⟩
   have B2:Hid (Below W.heap.size W Z∧Z.heap[g]? =some (.cells (Iv .u8 (aA 16)) 35)):=⟨A.out.trans (hb.mono A.out.size),(hb.block g (Array.getElem?_eq_some_iff.1 A2.out).1).trans A2.out⟩
   clear hb
   go_wp2_with fail
   exact⟨B2.out.1,hZ.out g _ ⟨B2.out.1,hgl.out,B2.out.2⟩⟩
 intro g v1 H0
 have R0:Hid _:=H0
 clear H0 BD CT
 refine wTl ?_
 simp only[oS]
 go_wp2_with(refine wpPr rfl 35 _ _ rfl g (Iv .u8 T) rfl rfl _ _ R0.out.2.2 (hi16.out T hTl) (hz16.out T hTl) (aG _ _) ?_)
 intro V hP
 have hrow:=hP.here
 have hbel:=hP.below _ _ R0.out.1 R0.out.2.1
 have hg:=R0.out.2.1
 clear hP R0
 refine aQ ?_
 have hvs:=hbel.size
 have hgl:g<V.heap.size:=(Array.getElem?_eq_some_iff.1 hrow).1
 have VT:Hid _:=hrow
 have V0:Hid _:=(hbel.block w.heap.size (by omega)).trans G0.out
 have V1:Hid _:=(hbel.block (w.heap.size+1) (by omega)).trans G1.out
 have VH:Hid _:=Sl.later SH.out hbel SH.out.1
 have VG:Hid _:=Sl.later SG.out hbel SG.out.1
 have VB:Hid (Below w.heap.size w V):=GB.out.trans (hbel.mono (by omega))
 clear hrow hbel G0 G1 SB SH SG SE hzv
 have c0:(convert 22 9 (.slice (some ⟨g,0,none⟩) 16 16)).run prog V.drew=.ok (.string ⟨(Lib.bytesOf T).toArray⟩) V.drew:=by
  have h:=GA (P:=prog) (w:=V.drew) (Sl.of_row (show V.drew.heap[g]? =_ from VT.out)) hTb 22 9 5 16 underlying22 underlying5 underlying9
  rw[hTl]at h
  exact h
 have c1:(convert 22 9 (.slice (some ⟨tg,to_+n,none⟩) 16 (tc - n))).run prog V.drew=.ok (.string ⟨(Lib.bytesOf G).toArray⟩) V.drew:=by
  have h:=GA (P:=prog) (w:=V.drew) (show Sl V.drew tg (to_+n) G from VG.out) hGb 22 9 5 (tc - n) underlying22 underlying5 underlying9
  rw[hGl]at h
  exact h
 go_wp2_with fail
 refine wRh 6 I8 (by kernel_rfl) ?_
 simp only[tU,tJ,dJ,dY]
 go_big_quiet_step (fail)
 go_big_quiet_step (fail)
 go_big_quiet_step (fail)
 go_big_quiet_step (fail)
 refine aB rfl (.slice (some ⟨tg,to_+n,none⟩) 16 (tc - n)) (fun w=>by
  have h:=SA (P:=prog) (o:={ dst:=some 37,op:=Op.slice 22 (Operand.tmp 35) (some (Operand.tmp 36)) none none,type:=22,pos:= "l2_aead.go:214",after:=#[{ on:=2,ground:=Ground.data },{ on:=3,ground:=Ground.data }],guard:=none }) (ρ:=fun x=>match x with| .tmp 35=>.slice (some ⟨tg,to_,none⟩) (n+16) tc|_=>.int .i64 n) 22 (.tmp 35) (.tmp 36) rfl tg to_ (n+16) tc n rfl rfl underlying22 N7 (by omega) (by omega) w
  rw[show n+16 - n=16 by omega]at h
  exact h) ?_
 simp only[pS]
 go_big_quiet_step (fail)
 refine wqN ?_
 clear c0 c1
 by_cases hTG:T=G
 ·have HTG:Hid _:=hTG
  subst hTG
  have K0:Hid _:=V0.out
  go_wp2_with fail
  refine wRh 5 I8 (by kernel_rfl) ?_
  simp only[tU,tJ,dJ,dY]
  refine wqLr rfl 25 _ rfl w.heap.size rfl _ (Iv .u8 key) _ _ (fun W hW=>by rw[hW];exact V0.out) underlying25 rfl hi32.out ?_
  simp only[pS]
  refine wqLr rfl 30 _ rfl (w.heap.size+1) rfl _ (Iv .u8 nonce) _ _ (fun W hW=>by rw[hW];exact V1.out) underlying30 rfl hi12.out ?_
  simp only[pS]
  go_big_quiet_step (fail)
  go_big_quiet_step (fail)
  refine aB rfl (.slice (some ⟨tg,to_,none⟩) n tc) (fun w=>by
   exact adB (P:=prog) (o:={ dst:=some 44,op:=Op.slice 22 (Operand.tmp 42) none (some (Operand.tmp 43)) none,type:=22,pos:= "l2_aead.go:217",after:=#[{ on:=2,ground:=Ground.data },{ on:=3,ground:=Ground.data }],guard:=none }) (ρ:=fun x=>match x with| .tmp 42=>.slice (some ⟨tg,to_,none⟩) (n+16) tc|_=>.int .i64 n) 22 (.tmp 42) (.tmp 43) rfl tg to_ (n+16) tc n rfl rfl underlying22 N7 (by omega) w) ?_
  simp only[pS]
  refine wqN ?_
  have VB2:Hid _:=bDr VB.out 2
  have VH2:Hid _:=VH.out
  have hvs2:w.heap.size≤V.drew.drew.heap.size:=VB2.out.size
  go_wp2_with fail
  refine(OJ key nonce hk hr B hB HC hBb H n hHl hn2 hHb tg to_ tc V.drew.drew VH2 (by omega) htc2).mono ?_
  rintro e w4 ⟨v4,rfl,o4,n4,b4⟩
  have O4:Hid _:=bM.mono o4 hvs2
  have N4:Hid _:=n4
  have B4:Hid _:=VB2.out.trans (b4.mono hvs2)
  clear o4 b4 n4
  go_wp2
  exact bodyPost_ret (v:=.tuple #[v4,.bool true]) (by rw[results_tmp2 rfl];rfl) rfl (by first|exact⟨fun _=>⟨_,rfl,O4.out,N4.out⟩,fun h=>absurd rfl h,B4.out⟩|exact⟨⟨_,rfl,O4.out,N4.out⟩,B4.out⟩)
 ·have HTG:Hid _:=hTG
  have hne:((⟨(Lib.bytesOf T).toArray⟩:ByteArray).toList==(⟨(Lib.bytesOf G).toArray⟩:ByteArray).toList)=false:=by
   rw[Go.ByteArray.toList_mk,Go.ByteArray.toList_mk,beq_eq_false_iff_ne]
   exact fun h=>hTG (YI T G hTb hGb (by rw[hTl,hGl]) (by rw[h]))
  clear hTG
  generalize(⟨(Lib.bytesOf T).toArray⟩:ByteArray)=s1 at*
  generalize(⟨(Lib.bytesOf G).toArray⟩:ByteArray)=s2 at*
  go_wp2
  exact bodyPost_ret (v:=.tuple #[.slice none 0 0,.bool false]) (by rw[results_tmp2 rfl];rfl) rfl ⟨fun h=>absurd h HTG.out,fun _=>rfl,bDr VB.out 1⟩
end Go.Proofs.YtmjccemdldidaaaGreatDoor
