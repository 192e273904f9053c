import Derived.Test.YtmjccemdldidaaaGreatDoorMH35
namespace Go.Proofs.YtmjccemdldidaaaGreatDoor
open Go.RowKit
open Go.Proofs.Tryz
open Go renaming heap_alloc_new → hAN, wpList_load_row → wpLr, wpQuiet_nil → wqN
open List renaming length_append → lQ, length_set → lJ, mem_cons_of_mem → mC, mem_cons_self → mQ, not_mem_nil → nY
open Nat renaming le_refl → nQ, le_trans → nU, lt_of_lt_of_le → nJ
set_option linter.unusedVariables false
set_option maxHeartbeats 16000000
set_option maxRecDepth 100000
abbrev hkR (kS kI kU kE kM kG:Nat) (st I G ep mi gt:LI):List (Nat×Array Value×TypeId):=[(kS,Iv .u8 st,30),(kI,Iv .u8 I,25),(kU,Iv .u8 G,25),(kE,Iv .u8 ep,25),(kM,Iv .u8 mi,25),(kG,Iv .u8 gt,25)]
theorem ZK (zs:LI) (ta:Option Addr) (c:Nat) (hn2:zs.length≤1048576) (hzb:aC zs) (w:World) (ht:cN w) (he:gK w) (hw4:3<w.heap.size)
 (hcode:∀i,i<zs.length→∃b o,ta=some ⟨b,o,none⟩∧b<w.heap.size∧w.cell? ⟨b,o+i,none⟩=some (.int .u8 (zs.getD i 0))):
 Calls prog 3 #[.slice ta zs.length c] w fun e w'=>e=.returned (.bool true)∧Below w.heap.size w w':=by
 have hni:((1048576:Int)<zs.length)=False:=by simp;omega
 have HB:Hid (aC zs):=hzb
 have HT:Hid (∀v,Below w.heap.size w v→cN v∧gK v∧3<v.heap.size):=fun v h=>⟨ht.later h (nQ _),he.later h (nQ _),nJ hw4 h.size⟩
 have hz32:=dM
 have hz12:=af0
 have hzc:=adW
 have hzo:=WC
 have hzi:=WD
 have hzw:=adY
 have hn9:zs.length≤2000000:=by omega
 have HC:Hid _:=hcode
 clear ht he hw4 hcode hzb
 go_enter func3,ntmps3
 go_wp2_with fail
 refine(ab4 ta zs c w hn9 HC.out).mono ?_
 rintro e9 w1 ⟨g,rfl,hg,hD,hb⟩
 have F:Hid (Fd w g ta zs c [] w1):=⟨hb,hg,hD,fun r hr=>(by cases hr)⟩
 clear hb hD HC
 go_wp2_with fail
 refine(sD g ta zs c _ F.out.drw HB.out hn9).mono ?_
 rintro e9 w2 ⟨gt,rfl,hl,hb,hD,hK⟩
 replace F:Hid _:=F.out.keep hD hK
 clear hD hK
 have lgt:Hid _:=hl
 have bgt:Hid _:=hb
 clear hl hb
 have KA:Hid _:=hAN w2 (.cells (Iv .u8 (aA 32)) 25)
 go_wp2_with(refine wpPr rfl 25 _ _ rfl w2.heap.size (Iv .u8 gt) rfl rfl _ _ KA.out (aI lgt.out) (kK lgt.out) (aG _ _) (fun w3 hP=>sH ?_))
 refine aH ?_
 replace F:Hid _:=F.out.newRow hP
 obtain⟨kG,eb⟩:∃x,x=w2.heap.size:=⟨_,rfl⟩
 rw[←eb]at F⊢
 clear eb hP KA
 go_wp2_with fail
 refine(sD g ta zs c _ F.out.drw HB.out hn9).mono ?_
 rintro e9 w4 ⟨mi,rfl,hl,hb,hD,hK⟩
 replace F:Hid _:=F.out.keep hD hK
 clear hD hK
 have lmi:Hid _:=hl
 have bmi:Hid _:=hb
 clear hl hb
 have KA:Hid _:=hAN w4 (.cells (Iv .u8 (aA 32)) 25)
 go_wp2_with(refine wpPr rfl 25 _ _ rfl w4.heap.size (Iv .u8 mi) rfl rfl _ _ KA.out (aI lmi.out) (kK lmi.out) (aG _ _) (fun w5 hP=>sH ?_))
 refine aH ?_
 replace F:Hid _:=F.out.newRow hP
 obtain⟨kM,eb⟩:∃x,x=w4.heap.size:=⟨_,rfl⟩
 rw[←eb]at F⊢
 clear eb hP KA
 go_wp2_with fail
 refine(sD g ta zs c _ F.out.drw HB.out hn9).mono ?_
 rintro e9 w6 ⟨ep,rfl,hl,hb,hD,hK⟩
 replace F:Hid _:=F.out.keep hD hK
 clear hD hK
 have lep:Hid _:=hl
 have bep:Hid _:=hb
 clear hl hb
 have KA:Hid _:=hAN w6 (.cells (Iv .u8 (aA 32)) 25)
 go_wp2_with(refine wpPr rfl 25 _ _ rfl w6.heap.size (Iv .u8 ep) rfl rfl _ _ KA.out (aI lep.out) (kK lep.out) (aG _ _) (fun w7 hP=>sH ?_))
 refine aH ?_
 replace F:Hid _:=F.out.newRow hP
 obtain⟨kE,eb⟩:∃x,x=w6.heap.size:=⟨_,rfl⟩
 rw[←eb]at F⊢
 clear eb hP KA
 have G0:Hid _:=F.out.at (mC _ (mC _ mQ))
 have G1:Hid _:=F.out.at (mC _ mQ)
 have G2:Hid _:=F.out.at mQ
 go_wp2_with(with_reducible refine aJ ?_;first
  | refine wpLr rfl 25 _ rfl kG rfl _ (Iv .u8 gt) _ _ G0.out underlying25 rfl (aI lgt.out) ?_
  | refine wpLr rfl 25 _ rfl kM rfl _ (Iv .u8 mi) _ _ G1.out underlying25 rfl (aI lmi.out) ?_
  | refine wpLr rfl 25 _ rfl kE rfl _ (Iv .u8 ep) _ _ G2.out underlying25 rfl (aI lep.out) ?_)
 clear G0 G1 G2
 refine Calls.mono (YR gt mi ep lgt.out lmi.out lep.out bgt.out bmi.out bep.out _) ?_
 rintro e9 w8 ⟨⟨r0,rfl,hA⟩,hb⟩
 replace F:Hid _:=F.out.later hb (nQ _)
 clear hb
 cases r0
 ·clear hA
  have B9:Hid _:=F.out.bel
  clear F
  go_wp2
  go_ret
  exact⟨rfl,B9.out⟩
 obtain⟨A1,A2,N1,N2⟩:=hA rfl
 have HA1:Hid _:=A1
 have HA2:Hid _:=A2
 have HN1:Hid _:=N1
 have HN2:Hid _:=N2
 clear A1 A2 N1 N2 hA
 have G0:Hid _:=F.out.at (mC _ (mC _ mQ))
 go_wp2_with(with_reducible refine aJ ?_;first
  | refine wpLr rfl 25 _ rfl kG rfl _ (Iv .u8 gt) _ _ G0.out underlying25 rfl (aI lgt.out) ?_)
 clear G0
 refine Calls.mono (iF gt 0 lgt.out bgt.out _) ?_
 rintro e9 w9 ⟨rfl,hb⟩
 replace F:Hid _:=F.out.later hb (nQ _)
 clear hb
 have lG:Hid _:=bA gt cD
 have yG:Hid _:=pH gt cD
 obtain⟨G,eG⟩:∃q,fW gt cD=q:=⟨_,rfl⟩
 rw[eG]at lG yG HA1 HA2⊢
 have EG:Hid _:=eG
 clear eG
 have KA:Hid _:=hAN w9 (.cells (Iv .u8 (aA 32)) 25)
 go_wp2_with(refine wpPr rfl 25 _ _ rfl w9.heap.size (Iv .u8 G) rfl rfl _ _ KA.out (aI lG.out) (kK lG.out) (aG _ _) (fun w10 hP=>sH ?_))
 refine aH ?_
 replace F:Hid _:=F.out.newRow hP
 obtain⟨kU,eb⟩:∃x,x=w9.heap.size:=⟨_,rfl⟩
 rw[←eb]at F⊢
 clear eb hP KA
 have G0:Hid _:=F.out.at (mC _ (mC _ mQ))
 go_wp2_with(with_reducible refine aJ ?_;first
  | refine wpLr rfl 25 _ rfl kM rfl _ (Iv .u8 mi) _ _ G0.out underlying25 rfl (aI lmi.out) ?_)
 clear G0
 refine Calls.mono (iF mi 0 lmi.out bmi.out _) ?_
 rintro e9 w11 ⟨rfl,hb⟩
 replace F:Hid _:=F.out.later hb (nQ _)
 clear hb
 have lI:Hid _:=bA mi cD
 have yI:Hid _:=pH mi cD
 obtain⟨I,eI⟩:∃q,fW mi cD=q:=⟨_,rfl⟩
 rw[eI]at lI yI HA2 HN2⊢
 have EI:Hid _:=eI
 clear eI
 have KA:Hid _:=hAN w11 (.cells (Iv .u8 (aA 32)) 25)
 go_wp2_with(refine wpPr rfl 25 _ _ rfl w11.heap.size (Iv .u8 I) rfl rfl _ _ KA.out (aI lI.out) (kK lI.out) (aG _ _) (fun w12 hP=>sH ?_))
 refine aH ?_
 replace F:Hid _:=F.out.newRow hP
 obtain⟨kI,eb⟩:∃x,x=w11.heap.size:=⟨_,rfl⟩
 rw[←eb]at F⊢
 clear eb hP KA
 go_wp2_with fail
 refine(PY g ta zs c _ F.out.drw HB.out hn9).mono ?_
 rintro e9 w13 ⟨st,rfl,hl,hb,hD,hK⟩
 replace F:Hid _:=F.out.keep hD hK
 clear hD hK
 have lst:Hid _:=hl
 have bst:Hid _:=hb
 clear hl hb
 have KA:Hid _:=hAN w13 (.cells (Iv .u8 (aA 12)) 30)
 go_wp2_with(refine wpPr rfl 30 _ _ rfl w13.heap.size (Iv .u8 st) rfl rfl _ _ KA.out (OB lst.out) (akH lst.out) (aG _ _) (fun w14 hP=>sH ?_))
 refine aH ?_
 replace F:Hid _:=F.out.newRow hP
 obtain⟨kS,eb⟩:∃x,x=w13.heap.size:=⟨_,rfl⟩
 rw[←eb]at F⊢
 clear eb hP KA
 obtain⟨z,ch,hs,lz0,bz0,lc0,lh0,bc0,bh0,CM0,CN0,CG0⟩:=ZJ lgt.out lmi.out lep.out lst.out bgt.out bmi.out bep.out bst.out EG.out EI.out HA1.out HA2.out HN1.out HN2.out
 have lz:Hid _:=lz0
 have bz:Hid _:=bz0
 have lc:Hid _:=lc0
 have lh:Hid _:=lh0
 have CM:Hid _:=CM0
 have CN:Hid _:=CN0
 have CG:Hid _:=CG0
 clear lz0 bz0 lc0 lh0 bc0 bh0 CM0 CN0 CG0 HA1 HA2 HN1 HN2 EG EI
 go_wp2_with fail
 have FD0:Hid _:=F.out.later (W':=w14.drew) (bDr (Below.refl _ _) 1) (nQ _)
 clear F
 refine wRt 10 (fun w'=>∃y:Wp (fun v=>Fd w g ta zs c (hkR kS kI kU kE kM kG st I G ep mi gt) v),w'=y.w) (.held [0,1,2,3,4,7] (.fork 5 (.held [6] (.fork 8 (.tail 9 (.last 10 .done)) 9 (.tail 8 (.last 10 .done)))) 9 (.tail 5 (.held [6] (.tail 8 (.last 10 .done)))))) jE (by kernel_rfl) ⟨⟨_,FD0.out⟩,rfl⟩ ?_
 obtain⟨w15,eV⟩:∃y,y=w14.drew:=⟨_,rfl⟩
 rw[←eV]at FD0⊢
 clear eV
 refine wTh ?_
 simp only[oS]
 refine wqLr rfl 25 _ rfl kM rfl _ (Iv .u8 mi) _ _ (fun w' hw'=>by obtain⟨y,rfl⟩:=hw';exact y.p.at (mC _ (mC _ (mC _ (mC _ mQ))))) underlying25 rfl (aI lmi.out) ?_
 simp only[pS]
 refine wqLr rfl 25 _ rfl kI rfl _ (Iv .u8 I) _ _ (fun w' hw'=>by obtain⟨y,rfl⟩:=hw';exact y.p.at (mC _ mQ)) underlying25 rfl (aI lI.out) ?_
 simp only[pS]
 refine wqLr rfl 25 _ rfl kU rfl _ (Iv .u8 G) _ _ (fun w' hw'=>by obtain⟨y,rfl⟩:=hw';exact y.p.at (mC _ (mC _ mQ))) underlying25 rfl (aI lG.out) ?_
 simp only[pS]
 refine wqLr rfl 25 _ rfl kE rfl _ (Iv .u8 ep) _ _ (fun w' hw'=>by obtain⟨y,rfl⟩:=hw';exact y.p.at (mC _ (mC _ (mC _ mQ)))) underlying25 rfl (aI lep.out) ?_
 simp only[pS]
 refine aB rfl (.pointer (some ⟨g,0,none⟩)) (fun w'=>by kernel_rfl) ?_
 simp only[pS]
 refine wqLr rfl 30 _ rfl kS rfl _ (Iv .u8 st) _ _ (fun w' hw'=>by obtain⟨y,rfl⟩:=hw';exact y.p.at mQ) underlying30 rfl (OB lst.out) ?_
 simp only[pS]
 refine wqN ?_
 obtain⟨Y0,eY0⟩:∃Y:World→Prop,Y=fun v=>Fd w g ta zs c (hkR kS kI kU kE kM kG st I G ep mi gt) v:=⟨_,rfl⟩
 obtain⟨Y1,eY1⟩:∃Y:Nat→World→Prop,Y=fun k v=>Fd w g ta zs c (hkR kS kI kU kE kM kG st I G ep mi gt) v∧g<k∧(∀r∈((hkR kS kI kU kE kM kG st I G ep mi gt):List (Nat×Array Value×TypeId)),r.1≠k)∧v.heap[k]? =some (.cells ((rV 0 (aA 140) (aA 32) (aA 32) 0 0).toArray) 39):=⟨_,rfl⟩
 have y0:∀v,Y0 v↔Fd w g ta zs c (hkR kS kI kU kE kM kG st I G ep mi gt) v:=fun v=>by rw[eY0]
 have y1:∀k v,Y1 k v↔(Fd w g ta zs c (hkR kS kI kU kE kM kG st I G ep mi gt) v∧g<k∧(∀r∈((hkR kS kI kU kE kM kG st I G ep mi gt):List (Nat×Array Value×TypeId)),r.1≠k)∧v.heap[k]? =some (.cells ((rV 0 (aA 140) (aA 32) (aA 32) 0 0).toArray) 39)):=fun k v=>by rw[eY1]
 clear eY0 eY1
 have N0:∀v,Y0 v→Y1 v.heap.size (v.alloc (.cells ((rV 0 (aA 140) (aA 32) (aA 32) 0 0).toArray) 39)):=fun v h=>by
  have h1:=(y0 v).1 h
  exact(y1 _ _).2 ⟨h1.later (cV _ _) (nQ _),h1.lt,fun r hr=>Nat.ne_of_lt (h1.row r hr).2.1,hAN _ _⟩
 have D0:∀v,Y0 v→Calls prog 10 #[.pointer (some ⟨g,0,none⟩),.int .i64 1000] v fun e v'=>∃r,e=.returned (.int .i64 r)∧Y0 v':=fun v h=>by
  refine(lH g ta zs c 1000 _ ((y0 v).1 h).drw HB.out hn9 (by decide)).mono ?_
  rintro e v' ⟨r,_,_,rfl,hD,cs,hP⟩
  exact⟨r,rfl,(y0 _).2 (((y0 v).1 h).keep hD ((fA.refl g _).put hP))⟩
 have D1:∀k v,Y1 k v→Calls prog 10 #[.pointer (some ⟨g,0,none⟩),.int .i64 1000] v fun e v'=>∃r,e=.returned (.int .i64 r)∧Y1 k v':=fun k v h=>by
  obtain⟨h1,h2,h3,h4⟩:=(y1 k v).1 h
  refine(lH g ta zs c 1000 _ h1.drw HB.out hn9 (by decide)).mono ?_
  rintro e v' ⟨r,_,_,rfl,hD,cs,hP⟩
  exact⟨r,rfl,(y1 _ _).2 ⟨h1.keep hD ((fA.refl g _).put hP),h2,h3,(hP.far k (by omega)).trans h4⟩⟩
 have M0:∀s v,Y0 v→Calls prog 9 #[.agg (Iv .u8 mi),.agg (Iv .u8 I),.agg (Iv .u8 G),.agg (Iv .u8 ep),.int .u32 s,.agg (Iv .u8 st),.int .i64 5] v fun x v'=>x=.returned (.agg (rV s z ch hs 30 8).toArray)∧Y0 v':=fun s v h=>by
  have h1:=(y0 v).1 h
  obtain⟨t1,t2,t3⟩:=HT.out v h1.bel
  exact(CM.out s v t1 t2 t3).mono fun e v' q=>⟨q.1,(y0 _).2 (h1.later q.2 (nQ _))⟩
 have M1:∀s k v,Y1 k v→Calls prog 9 #[.agg (Iv .u8 mi),.agg (Iv .u8 I),.agg (Iv .u8 G),.agg (Iv .u8 ep),.int .u32 s,.agg (Iv .u8 st),.int .i64 5] v fun x v'=>x=.returned (.agg (rV s z ch hs 30 8).toArray)∧Y1 k v':=fun s k v h=>by
  obtain⟨h1,h2,h3,h4⟩:=(y1 k v).1 h
  obtain⟨t1,t2,t3⟩:=HT.out v h1.bel
  exact(CM.out s v t1 t2 t3).mono fun e v' q=>⟨q.1,(y1 _ _).2 ⟨h1.later q.2 (nQ _),h2,h3,(q.2.block k (Array.getElem?_eq_some_iff.1 h4).1).trans h4⟩⟩
 have H:Y0 w15:=(y0 _).2 FD0.out
 apply YF (.last 10 .done) (fun(x:Int) k v=>Y1 k v)
 intro h21
 apply YE (.tail 9 (.last 10 .done)) (fun(x:Int) v=>Y0 v)
 intro h20
 apply YF (.tail 8 (.last 10 .done)) (fun(x:Int) k v=>Y1 k v)
 intro h11
 apply YE (.fork 8 (.tail 9 (.last 10 .done)) 9 (.tail 8 (.last 10 .done))) (fun(x:Int) v=>Y0 v)
 intro h10
 apply cT (.tail 5 (.held [6] (.tail 8 (.last 10 .done)))) (Y1)
 intro h01
 ·refine wTf ?_ ?_
  ·refine akB (D0 _ H) rfl rfl (by kernel_rfl) fun x v q=>⟨⟨⟨v,(y0 v).1 q⟩,rfl⟩,?_⟩
   refine wTh ?_
   simp only[oS]
   refine aB rfl (.int .u32 (IntKind.u32.wrap x)) (fun w'=>by kernel_rfl) ?_
   simp only[pS]
   refine wqN ?_
   exact h10.out x v q
  ·exact DU (mk:=fun c=>.pointer (some ⟨c,0,none⟩)) (Y:=Y1) rfl rfl (by kernel_rfl) (N0 _ H) fun k v q=>⟨⟨⟨v,((y1 _ v).1 q).1⟩,rfl⟩,h01.out k v q⟩
 ·intro k v q
  ·refine wTt (akB (D1 k _ q) rfl rfl (by kernel_rfl) fun x v q=>⟨⟨⟨v,((y1 _ v).1 q).1⟩,rfl⟩,?_⟩)
   refine wTh ?_
   simp only[oS]
   refine aB rfl (.int .u32 (IntKind.u32.wrap x)) (fun w'=>by kernel_rfl) ?_
   simp only[pS]
   refine wqN ?_
   exact h11.out x k v q
 ·intro x v q
  refine wTf ?_ ?_
  ·exact KT (M0 (IntKind.u32.wrap x) _ q) rfl rfl (by kernel_rfl) fun v q=>⟨⟨⟨v,(y0 v).1 q⟩,rfl⟩,h20.out x v q⟩
  ·exact DU (mk:=fun c=>.pointer (some ⟨c,0,none⟩)) (Y:=Y1) rfl rfl (by kernel_rfl) (N0 _ q) fun k v q=>⟨⟨⟨v,((y1 _ v).1 q).1⟩,rfl⟩,h11.out x k v q⟩
 ·intro x k v q
  exact wTt (KT (M1 (IntKind.u32.wrap x) k _ q) rfl rfl (by kernel_rfl) fun v q=>⟨⟨⟨v,((y1 _ v).1 q).1⟩,rfl⟩,h21.out x k v q⟩)
 ·intro x v q
  exact wTt (DU (mk:=fun c=>.pointer (some ⟨c,0,none⟩)) (Y:=Y1) rfl rfl (by kernel_rfl) (N0 _ q) fun k v q=>⟨⟨⟨v,((y1 _ v).1 q).1⟩,rfl⟩,h21.out x k v q⟩)
 intro x kR w16 q
 have F5:=(y1 _ _).1 q
 have HQ:Hid _:=F5
 clear F5 q H FD0 M0 M1 D0 D1 N0 y0 y1 CM
 have hs9:Hid _:=afW x
 obtain⟨s,es⟩:∃y,IntKind.u32.wrap x=y:=⟨_,rfl⟩
 rw[es]at hs9⊢
 clear es
 refine wTl ?_
 simp only[oS]
 go_wp2_with(refine wpPr rfl 39 _ _ rfl kR (rV s z ch hs 30 8).toArray rfl rfl _ _ HQ.out.2.2.2 (zH lz.out lc.out lh.out) (akG lz.out lc.out lh.out) (GD _ _ _ _ _ _) (fun w17 hP=>sH ?_))
 refine aH ?_
 refine aQ ?_
 have F:Hid _:=HQ.out.1.putRow hP HQ.out.2.1 HQ.out.2.2.1
 clear hP HQ
 have q1:w17.cell? ⟨kR,205,none⟩=some (.int .i64 30):=ajD (F.out.at mQ) lz.out lc.out lh.out 0 _ rfl
 have q2:w17.cell? ⟨kR,206,none⟩=some (.int .i64 8):=ajD (F.out.at mQ) lz.out lc.out lh.out 1 _ rfl
 go_wp2_with fail
 clear q1 q2
 obtain⟨w18,eW⟩:∃y,y=w17.alloc (.cells #[] 25):=⟨_,rfl⟩
 have hb:Below w17.heap.size w17 w18:=by rw[eW];exact cV _ _
 rw[←eW]
 replace F:Hid _:=F.out.later hb (nQ _)
 clear hb
 obtain⟨B,eB⟩:∃y,y=w18.heap.size:=⟨_,rfl⟩
 have hgB:g<B:=by rw[eB];exact F.out.lt
 have hwB:w.heap.size≤B:=by rw[eB];exact F.out.bel.size
 have hRB:Hid (∀r∈(((kR,(rV s z ch hs 30 8).toArray,39)::hkR kS kI kU kE kM kG st I G ep mi gt):List (Nat×Array Value×TypeId)),r.1<B):=fun r hr=>by rw[eB];exact(F.out.row r hr).2.1
 have hBs:B≤w18.heap.size:=by omega
 clear eB eW
 refine(lH g ta zs c 4 _ F.out.drw HB.out hn9 (by decide)).mono ?_
 rintro e9 w19 ⟨j0,hj0,hj1,rfl,hD,cs,hP⟩
 have hK:=(fA.refl g _).put hP
 have hBt:B≤w19.heap.size:=by have h9:=hK.size;omega
 replace F:Hid _:=F.out.keep hD hK
 clear hD hP hK hBs
 obtain⟨j,rfl⟩:∃j:Nat,j0=j:=⟨j0.toNat,by omega⟩
 go_wp2_with fail
 go_loopw [13,14] (fun kv i wr=>∃(j n:Nat) (L:LI),i=.int .i64 j∧j+n≤3∧L.length=n*32∧aC L∧(∀q,q<n→jK L q≠I)∧cZ wr B kv L n∧B≤wr.heap.size∧Fd w g ta zs c ((kR,(rV s z ch hs 30 8).toArray,39)::hkR kS kI kU kE kM kG st I G ep mi gt) wr) (fun _ i _=>(intOf i).toNat)
 case atStart=>exact⟨j,0,[],rfl,by omega,rfl,fun i=>by simp,fun q hq=>absurd hq (Nat.not_lt_zero _),.inl ⟨rfl,rfl,_,rfl⟩,hBt,F.out⟩
 case round=>
  obtain⟨j,n,L,rfl,hjn,hL,hLb,hLI,hO,hBr,hF⟩:=hrel
  clear F
  have F:Hid _:=hF
  have HL:Hid _:=hL
  have HLB:Hid _:=hLb
  have HLI:Hid _:=hLI
  have KO:Hid _:=hO
  clear hF hL hLb hLI hO hBt hj0 hj1
  obtain⟨WR,rfl⟩:∃X,X=wr:=⟨_,rfl⟩
  by_cases hj:0<j
  ·have hji:(0:Int)<j:=by omega
   go_wp2_with fail
   refine(sD g ta zs c _ F.out.drw HB.out hn9).mono ?_
   rintro e9 w20 ⟨ot,rfl,hl,hb,hD,hK⟩
   replace KO:Hid _:=cZ.keeps KO.out hK hgB
   have hBs:B≤w20.heap.size:=by have h9:=hK.size;omega
   replace F:Hid _:=F.out.keep hD hK
   clear hD hK hBr
   have lo:Hid _:=hl
   have bo:Hid _:=hb
   clear hl hb
   have KA:Hid _:=hAN w20 (.cells (Iv .u8 (aA 32)) 25)
   go_wp2_with(refine wpPr rfl 25 _ _ rfl w20.heap.size (Iv .u8 ot) rfl rfl _ _ KA.out (aI lo.out) (kK lo.out) (aG _ _) (fun w21 hP=>sH ?_))
   refine aH ?_
   have hb:Below w20.heap.size w20 w21:=hP.below _ _ (cV _ _) (nQ _)
   replace KO:Hid _:=cZ.later KO.out hb
   have hBu:=nU hBs hb.size
   clear hBs
   replace F:Hid _:=F.out.newRow hP
   obtain⟨kO,eb⟩:∃x,x=w20.heap.size:=⟨_,rfl⟩
   rw[←eb]at F⊢
   clear eb hP KA hb
   have QE:Hid (∀w,_):=fun w=>tH ot I lo.out lI.out w
   obtain⟨b0,eb0⟩:∃r,decide (ot=I)=r:=⟨_,rfl⟩
   rw[eb0]at QE
   have G0:Hid _:=F.out.at mQ
   have G1:Hid _:=F.out.at (mC _ (mC _ (mC _ mQ)))
   go_wp2_with(with_reducible refine aJ ?_;first
    | refine wpLr rfl 25 _ rfl kO rfl _ (Iv .u8 ot) _ _ G0.out underlying25 rfl (aI lo.out) ?_
    | refine wpLr rfl 25 _ rfl kI rfl _ (Iv .u8 I) _ _ G1.out underlying25 rfl (aI lI.out) ?_
    | refine iH rfl 25 25 _ _ rfl (Iv .u8 ot) (Iv .u8 I) rfl rfl _ QE.out iC (sH ?_))
   clear G0 G1
   refine aH ?_
   cases b0
   rotate_left
   ·clear QE eb0 KO
    have B9:Hid _:=F.out.bel
    clear F
    go_wp2
    go_ret
    exact⟨rfl,B9.out⟩
   have HNE:Hid (ot≠I):=of_decide_eq_false eb0
   clear QE eb0
   have G0:Hid _:=F.out.at mQ
   go_wp2_with(with_reducible refine aJ ?_;first
    | refine wpLr rfl 25 _ rfl kO rfl _ (Iv .u8 ot) _ _ G0.out underlying25 rfl (aI lo.out) ?_
    | refine rP rfl (.tmp 81) rfl ot lo.out rfl (sH ?_))
   clear G0
   refine aH ?_
   obtain⟨v9,w23,hr9,ho9,hb9,_⟩:=zP (cZ.later KO.out (cV w21 (.cells (Iv .u8 ot) 25))) (by simp;omega) (by omega) w21.heap.size ot lo.out (hAN _ _) 1 42
   refine jT rfl (.tmp 80) (.tmp 82) 42 rfl _ (.slice (some ⟨w21.heap.size,0,none⟩) 1 1) rfl rfl v9 w23 hr9 ?_
   have hb8:Below B w21 w23:=((cV w21 _).mono hBu).trans hb9
   have hBv:B≤w23.heap.size:=by have h9:=hb8.size;omega
   replace F:Hid _:=F.out.tailH.over hb8 hwB hgB hRB.out
   clear hb8 hb9 hr9 hBu KO
   have KO:Hid _:=ho9
   clear ho9
   simp only[Act.put]
   go_wp2
   go_roundw
   case rel=>exact⟨_,_,_,_,_,_,_,_,_,_,_,_,_,_,_,_,_,⟨j - 1,n+1,L++ot,by rw[show((j - 1:Nat):Int)=(j:Int) - 1 by omega],by omega,by rw[lQ,HL.out,lo.out];omega,aV HLB.out bo.out,fun q hq=>by
    by_cases h9:q<n
    ·rw[QV _ _ _ _ HL.out h9];exact HLI.out q h9
    ·obtain rfl:q=n:=by omega
     rw[LZ _ _ _ HL.out lo.out];exact HNE.out,KO.out,hBv,F.out⟩,rfl⟩
   case measure=>simp[intOf];omega
  ·obtain rfl:j=0:=by omega
   clear hj
   have hn10:n≤10:=by omega
   have hn11:n+1≤10:=by omega
   obtain⟨kb,kc,eo,hck⟩:=cZ.shape KO.out HL.out
   subst eo
   clear hck
   go_wp2_with fail
   have FW:Hid (∀v,J0 WR v→_):=fun v h=>F.out.later h (nQ _)
   have FC:Hid (∀v,J0 WR v→∀j,j<n*32→v.cell? ⟨kb,j,none⟩=some (.int .u8 (L.getD j 0))):=fun v h=>cZ.kept (cZ.later KO.out h) HL.out
   have FT:Hid (∀v,J0 WR v→cN v∧gK v∧3<v.heap.size):=fun v h=>HT.out v (FW.out v h).bel
   have H:J0 WR WR.drew:=bDr (Below.refl _ _) 1
   refine wRt 9 (fun w'=>∃x:yM WR.heap.size WR,w'=x.w) (.held [0,1,3,5,6] (.fork 2 (.fork 4 (.fork 7 (.tail 8 (.last 9 .done)) 8 (.tail 7 (.last 9 .done))) 8 (.tail 4 (.tail 7 (.last 9 .done)))) 8 (.tail 2 (.tail 4 (.tail 7 (.last 9 .done)))))) jE (by kernel_rfl) ⟨⟨_,H⟩,rfl⟩ ?_
   obtain⟨w24,eV⟩:∃y,y=WR.drew:=⟨_,rfl⟩
   rw[←eV]at H⊢
   clear eV
   refine wTh ?_
   simp only[oS]
   refine wqLr rfl 25 _ rfl kG rfl _ (Iv .u8 gt) _ _ (fun w' hw'=>by obtain⟨x,rfl⟩:=hw';exact(FW.out _ x.bel).at (mC _ (mC _ (mC _ (mC _ (mC _ (mC _ mQ))))))) underlying25 rfl (aI lgt.out) ?_
   simp only[pS]
   refine wqLr rfl 25 _ rfl kU rfl _ (Iv .u8 G) _ _ (fun w' hw'=>by obtain⟨x,rfl⟩:=hw';exact(FW.out _ x.bel).at (mC _ (mC _ (mC _ mQ)))) underlying25 rfl (aI lG.out) ?_
   simp only[pS]
   refine aB rfl (.slice (some ⟨kb,0,none⟩) n kc) (fun w'=>by kernel_rfl) ?_
   simp only[pS]
   refine aB rfl (.pointer (some ⟨kR,0,none⟩)) (fun w'=>by kernel_rfl) ?_
   simp only[pS]
   refine wqLm rfl 37 _ rfl kR 0 rfl (WL s z) _ (fun w' hw'=>by obtain⟨x,rfl⟩:=hw';exact ag5 ((FW.out _ x.bel).at mQ)) underlying37 rfl (OC lz.out) ?_
   simp only[pS]
   refine wqN ?_
   apply oR (.last 9 .done) (fun(gb kg ck k:Nat) v=>K0 WR k v)
   intro h31
   apply qI (.tail 8 (.last 9 .done)) (fun(gb kg ck:Nat) v=>J0 WR v)
   intro h30
   apply oR (.tail 7 (.last 9 .done)) (fun(gb:Nat)=>K2 WR L)
   intro h21
   apply qI (.fork 7 (.tail 8 (.last 9 .done)) 8 (.tail 7 (.last 9 .done))) (fun(gb:Nat)=>J2 WR L)
   intro h20
   apply pQ (.tail 4 (.tail 7 (.last 9 .done))) (K1 WR)
   intro h11
   apply cT (.fork 4 (.fork 7 (.tail 8 (.last 9 .done)) 8 (.tail 7 (.last 9 .done))) 8 (.tail 4 (.tail 7 (.last 9 .done)))) (J1 WR)
   intro h10
   apply cT (.tail 2 (.tail 4 (.tail 7 (.last 9 .done)))) (K0 WR)
   intro h01
   ·refine wTf ?_ ?_
    ·exact DU (mk:=fun c=>.slice (some ⟨c,0,none⟩) 0 0) (Y:=J1 WR) rfl rfl (by kernel_rfl) ⟨pX H _,Rk.new H _ _⟩ fun c v q=>⟨⟨⟨v,q.1⟩,rfl⟩,h10.out c v q⟩
    ·exact DU (mk:=fun c=>.pointer (some ⟨c,0,none⟩)) (Y:=K0 WR) rfl rfl (by kernel_rfl) ⟨pX H _,Rk.new H _ _⟩ fun c v q=>⟨⟨⟨v,q.1⟩,rfl⟩,h01.out c v q⟩
   ·intro k9 v q
    exact wTt (DU (mk:=fun c=>.slice (some ⟨c,0,none⟩) 0 0) (Y:=fun c v=>K1 WR c k9 v) rfl rfl (by kernel_rfl) ⟨pX q.1 _,Rk.new q.1 _ _,q.2.later (cV _ _),Nat.ne_of_lt q.2.lt⟩ fun c v q=>⟨⟨⟨v,q.1⟩,rfl⟩,h11.out c k9 v q⟩)
   ·intro gb v q
    refine wTf ?_ ?_
    ·exact xD rfl rfl rfl rfl rfl HL.out hn10 FC.out q.1 q.2 fun kg ck v h1 h2 _=>⟨⟨⟨v,h1⟩,rfl⟩,h20.out gb kg ck v ⟨h1,h2⟩⟩
    ·exact DU (mk:=fun c=>.pointer (some ⟨c,0,none⟩)) (Y:=fun c v=>K1 WR gb c v) rfl rfl (by kernel_rfl) ⟨pX q.1 _,q.2.later (cV _ _),Rk.new q.1 _ _,Nat.ne_of_gt q.2.lt⟩ fun c v q=>⟨⟨⟨v,q.1⟩,rfl⟩,h11.out gb c v q⟩
   ·intro gb k9 v q
    exact wTt (xD rfl rfl rfl rfl rfl HL.out hn10 FC.out q.1 q.2.1 fun kg ck v h1 h2 h3=>⟨⟨⟨v,h1⟩,rfl⟩,h21.out gb kg ck k9 v ⟨h1,h2,q.2.2.1.1,(h3 _ q.2.2.1.lt q.2.2.2).trans q.2.2.1.2⟩⟩)
   ·intro gb kg ck v q
    refine wTf ?_ ?_
    ·exact KT (CN.out s L n kg ck v HL.out hn10 (q.2) (FT.out v (q.1)).1 (FT.out v (q.1)).2.1 (FT.out v (q.1)).2.2 HLI.out) rfl rfl (by kernel_rfl) fun v2 hb=>⟨⟨⟨v2,SY q.1 hb⟩,rfl⟩,h30.out gb kg ck v2 (SY q.1 hb)⟩
    ·exact DU (mk:=fun c=>.pointer (some ⟨c,0,none⟩)) (Y:=fun c v=>K2 WR L kg ck c v) rfl rfl (by kernel_rfl) ⟨pX q.1 _,Sl.later q.2 (cV _ _) q.2.1,Rk.new q.1 _ _⟩ fun c v q=>⟨⟨⟨v,q.1⟩,rfl⟩,h21.out gb kg ck c v q⟩
   ·intro gb kg ck k9 v q
    exact wTt (KT (CN.out s L n kg ck v HL.out hn10 (q.2.1) (FT.out v (q.1)).1 (FT.out v (q.1)).2.1 (FT.out v (q.1)).2.2 HLI.out) rfl rfl (by kernel_rfl) fun v2 hb=>⟨⟨⟨v2,SY q.1 hb⟩,rfl⟩,h31.out gb kg ck k9 v2 ⟨SY q.1 hb,q.2.2.later hb⟩⟩)
   ·intro gb kg ck v q
    exact wTt (DU (mk:=fun c=>.pointer (some ⟨c,0,none⟩)) (Y:=K0 WR) rfl rfl (by kernel_rfl) ⟨pX q _,Rk.new q _ _⟩ fun c v q=>⟨⟨⟨v,q.1⟩,rfl⟩,h31.out gb kg ck c v q⟩)
   intro gb kg ck kN w25 q
   have HQ:Hid _:=q
   clear q H FC FT
   refine wTl ?_
   simp only[oS]
   go_wp2_with(refine wpPr rfl 44 _ _ rfl kN ((nW 10 1).toArray) rfl rfl _ _ HQ.out.2.2 (fZ rfl rfl rfl) (WF rfl rfl rfl) (lC _ _ _ _ _ _) (fun w26 hP=>sH ?_))
   refine aH ?_
   refine aQ ?_
   have hb9:J0 WR w26:=hP.below _ _ HQ.out.1 HQ.out.2.1
   replace KO:Hid _:=cZ.later KO.out hb9
   replace hBr:=nU hBr hb9.size
   have F9:=FW.out _ hb9
   have hg9:kN≠g:=by have h1:=F.out.lt;have h2:=HQ.out.2.1;omega
   have F8:=F9.addRow _ _ _ hg9 hP.here
   replace F:Hid _:=F8
   clear F8 F9 hg9 hb9 hP HQ FW
   have q1:w26.cell? ⟨kN,0,none⟩=some (.int .i64 10):=ag4 (F.out.at mQ) 0 _ rfl
   have q2:w26.cell? ⟨kN,78,none⟩=some (.int .i64 1):=ajC (F.out.at mQ) rfl rfl rfl 0 _ rfl
   replace F:Hid _:=F.out.tailH
   have G0:Hid _:=F.out.at (mC _ (mC _ mQ))
   go_wp2_with(with_reducible refine aJ ?_;first
    | refine wpLr rfl 25 _ rfl kI rfl _ (Iv .u8 I) _ _ G0.out underlying25 rfl (aI lI.out) ?_
    | refine rP rfl (.tmp 101) rfl I lI.out rfl (sH ?_))
   clear G0
   refine aH ?_
   clear q1 q2
   obtain⟨v9,w27,hr9,ho9,hb9,_⟩:=zP (cZ.later KO.out (cV w26 (.cells (Iv .u8 I) 25))) (by have h9:=hBr;simp;omega) (by omega) w26.heap.size I lI.out (hAN _ _) 1 42
   refine jT rfl (.tmp 100) (.tmp 102) 42 rfl _ (.slice (some ⟨w26.heap.size,0,none⟩) 1 1) rfl rfl v9 w27 hr9 ?_
   have hb8:Below B w26 w27:=((cV w26 _).mono hBr).trans hb9
   replace hBr:=nU hBr hb8.size
   replace F:Hid _:=F.out.over hb8 hwB hgB hRB.out
   clear hb8 hb9 hr9 KO
   have KO:Hid _:=ho9
   clear ho9
   simp only[Act.put]
   have HL2:Hid ((L++I).length=(n+1)*32):=by show _=_;rw[lQ,HL.out,lI.out];omega
   have HLB2:Hid _:=aV HLB.out yI.out
   have HL3:Hid (∀q,q<n→jK (L++I) q≠I):=fun q hq=>by rw[QV _ _ _ _ HL.out hq];exact HLI.out q hq
   have HL4:Hid (jK (L++I) n=I):=LZ _ _ _ HL.out lI.out
   obtain⟨LI2,eL⟩:∃y,L++I=y:=⟨_,rfl⟩
   rw[eL]at KO HL2 HLB2 HL3 HL4
   clear eL HL HLB HLI CN
   obtain⟨kb,kc,eo,hck⟩:=cZ.shape KO.out HL2.out
   subst eo
   clear hck
   go_wp2_with fail
   have FW:Hid (∀v,J0 w27 v→_):=fun v h=>F.out.later h (nQ _)
   have FC:Hid (∀v,J0 w27 v→∀j,j<(n+1)*32→v.cell? ⟨kb,j,none⟩=some (.int .u8 (LI2.getD j 0))):=fun v h=>cZ.kept (cZ.later KO.out h) HL2.out
   have FT:Hid (∀v,J0 w27 v→cN v∧gK v∧3<v.heap.size):=fun v h=>HT.out v (FW.out v h).bel
   have H:J0 w27 w27.drew:=bDr (Below.refl _ _) 1
   refine wRt 9 (fun w'=>∃x:yM w27.heap.size w27,w'=x.w) (.held [0,1,3,5,6] (.fork 2 (.fork 4 (.fork 7 (.tail 8 (.last 9 .done)) 8 (.tail 7 (.last 9 .done))) 8 (.tail 4 (.tail 7 (.last 9 .done)))) 8 (.tail 2 (.tail 4 (.tail 7 (.last 9 .done)))))) jE (by kernel_rfl) ⟨⟨_,H⟩,rfl⟩ ?_
   obtain⟨w28,eV⟩:∃y,y=w27.drew:=⟨_,rfl⟩
   rw[←eV]at H⊢
   clear eV
   refine wTh ?_
   simp only[oS]
   refine wqLr rfl 25 _ rfl kG rfl _ (Iv .u8 gt) _ _ (fun w' hw'=>by obtain⟨x,rfl⟩:=hw';exact(FW.out _ x.bel).at (mC _ (mC _ (mC _ (mC _ (mC _ (mC _ mQ))))))) underlying25 rfl (aI lgt.out) ?_
   simp only[pS]
   refine wqLr rfl 25 _ rfl kU rfl _ (Iv .u8 G) _ _ (fun w' hw'=>by obtain⟨x,rfl⟩:=hw';exact(FW.out _ x.bel).at (mC _ (mC _ (mC _ mQ)))) underlying25 rfl (aI lG.out) ?_
   simp only[pS]
   refine aB rfl (.slice (some ⟨kb,0,none⟩) (n+1) kc) (fun w'=>by kernel_rfl) ?_
   simp only[pS]
   refine aB rfl (.pointer (some ⟨kR,0,none⟩)) (fun w'=>by kernel_rfl) ?_
   simp only[pS]
   refine wqLm rfl 37 _ rfl kR 0 rfl (WL s z) _ (fun w' hw'=>by obtain⟨x,rfl⟩:=hw';exact ag5 ((FW.out _ x.bel).at mQ)) underlying37 rfl (OC lz.out) ?_
   simp only[pS]
   refine wqN ?_
   apply oR (.last 9 .done) (fun(gb kg ck k:Nat) v=>K0 w27 k v)
   intro h31
   apply qI (.tail 8 (.last 9 .done)) (fun(gb kg ck:Nat) v=>J0 w27 v)
   intro h30
   apply oR (.tail 7 (.last 9 .done)) (fun(gb:Nat)=>K2 w27 LI2)
   intro h21
   apply qI (.fork 7 (.tail 8 (.last 9 .done)) 8 (.tail 7 (.last 9 .done))) (fun(gb:Nat)=>J2 w27 LI2)
   intro h20
   apply pQ (.tail 4 (.tail 7 (.last 9 .done))) (K1 w27)
   intro h11
   apply cT (.fork 4 (.fork 7 (.tail 8 (.last 9 .done)) 8 (.tail 7 (.last 9 .done))) 8 (.tail 4 (.tail 7 (.last 9 .done)))) (J1 w27)
   intro h10
   apply cT (.tail 2 (.tail 4 (.tail 7 (.last 9 .done)))) (K0 w27)
   intro h01
   ·refine wTf ?_ ?_
    ·exact DU (mk:=fun c=>.slice (some ⟨c,0,none⟩) 0 0) (Y:=J1 w27) rfl rfl (by kernel_rfl) ⟨pX H _,Rk.new H _ _⟩ fun c v q=>⟨⟨⟨v,q.1⟩,rfl⟩,h10.out c v q⟩
    ·exact DU (mk:=fun c=>.pointer (some ⟨c,0,none⟩)) (Y:=K0 w27) rfl rfl (by kernel_rfl) ⟨pX H _,Rk.new H _ _⟩ fun c v q=>⟨⟨⟨v,q.1⟩,rfl⟩,h01.out c v q⟩
   ·intro k9 v q
    exact wTt (DU (mk:=fun c=>.slice (some ⟨c,0,none⟩) 0 0) (Y:=fun c v=>K1 w27 c k9 v) rfl rfl (by kernel_rfl) ⟨pX q.1 _,Rk.new q.1 _ _,q.2.later (cV _ _),Nat.ne_of_lt q.2.lt⟩ fun c v q=>⟨⟨⟨v,q.1⟩,rfl⟩,h11.out c k9 v q⟩)
   ·intro gb v q
    refine wTf ?_ ?_
    ·exact xD rfl rfl rfl rfl rfl HL2.out hn11 FC.out q.1 q.2 fun kg ck v h1 h2 _=>⟨⟨⟨v,h1⟩,rfl⟩,h20.out gb kg ck v ⟨h1,h2⟩⟩
    ·exact DU (mk:=fun c=>.pointer (some ⟨c,0,none⟩)) (Y:=fun c v=>K1 w27 gb c v) rfl rfl (by kernel_rfl) ⟨pX q.1 _,q.2.later (cV _ _),Rk.new q.1 _ _,Nat.ne_of_gt q.2.lt⟩ fun c v q=>⟨⟨⟨v,q.1⟩,rfl⟩,h11.out gb c v q⟩
   ·intro gb k9 v q
    exact wTt (xD rfl rfl rfl rfl rfl HL2.out hn11 FC.out q.1 q.2.1 fun kg ck v h1 h2 h3=>⟨⟨⟨v,h1⟩,rfl⟩,h21.out gb kg ck k9 v ⟨h1,h2,q.2.2.1.1,(h3 _ q.2.2.1.lt q.2.2.2).trans q.2.2.1.2⟩⟩)
   ·intro gb kg ck v q
    refine wTf ?_ ?_
    ·exact KT (CG.out s LI2 n kg ck v HL2.out hn10 (q.2) (FT.out v (q.1)).1 (FT.out v (q.1)).2.1 (FT.out v (q.1)).2.2 HL3.out HL4.out) rfl rfl (by kernel_rfl) fun v2 hb=>⟨⟨⟨v2,SY q.1 hb⟩,rfl⟩,h30.out gb kg ck v2 (SY q.1 hb)⟩
    ·exact DU (mk:=fun c=>.pointer (some ⟨c,0,none⟩)) (Y:=fun c v=>K2 w27 LI2 kg ck c v) rfl rfl (by kernel_rfl) ⟨pX q.1 _,Sl.later q.2 (cV _ _) q.2.1,Rk.new q.1 _ _⟩ fun c v q=>⟨⟨⟨v,q.1⟩,rfl⟩,h21.out gb kg ck c v q⟩
   ·intro gb kg ck k9 v q
    exact wTt (KT (CG.out s LI2 n kg ck v HL2.out hn10 (q.2.1) (FT.out v (q.1)).1 (FT.out v (q.1)).2.1 (FT.out v (q.1)).2.2 HL3.out HL4.out) rfl rfl (by kernel_rfl) fun v2 hb=>⟨⟨⟨v2,SY q.1 hb⟩,rfl⟩,h31.out gb kg ck k9 v2 ⟨SY q.1 hb,q.2.2.later hb⟩⟩)
   ·intro gb kg ck v q
    exact wTt (DU (mk:=fun c=>.pointer (some ⟨c,0,none⟩)) (Y:=K0 w27) rfl rfl (by kernel_rfl) ⟨pX q _,Rk.new q _ _⟩ fun c v q=>⟨⟨⟨v,q.1⟩,rfl⟩,h31.out gb kg ck c v q⟩)
   intro gb kg ck kO w29 q
   have HQ:Hid _:=q
   clear q H FC FT
   refine wTl ?_
   simp only[oS]
   go_wp2_with(refine wpPr rfl 44 _ _ rfl kO ((mZ 30 ((n:Int)+1) st ch hs 9).toArray) rfl rfl _ _ HQ.out.2.2 (fZ lst.out lc.out lh.out) (WF lst.out lc.out lh.out) (lC _ _ _ _ _ _) (fun w30 hP=>sH ?_))
   refine aH ?_
   refine aQ ?_
   have hb9:J0 w27 w30:=hP.below _ _ HQ.out.1 HQ.out.2.1
   replace KO:Hid _:=cZ.later KO.out hb9
   replace hBr:=nU hBr hb9.size
   have F9:=FW.out _ hb9
   have hg9:kO≠g:=by have h1:=F.out.lt;have h2:=HQ.out.2.1;omega
   have F8:=F9.addRow _ _ _ hg9 hP.here
   replace F:Hid _:=F8
   clear F8 F9 hg9 hb9 hP HQ FW
   clear CG HL3 HL4
   have q1:w30.cell? ⟨kO,0,none⟩=some (.int .i64 30):=ag4 (F.out.at mQ) 0 _ rfl
   have q2:w30.cell? ⟨kO,1,none⟩=some (.int .i64 ((n:Int)+1)):=ag4 (F.out.at mQ) 1 _ rfl
   have q3:w30.cell? ⟨kO,78,none⟩=some (.int .i64 9):=ajC (F.out.at mQ) lst.out lc.out lh.out 0 _ rfl
   have g1:Hid _:=ak6 (F.out.at mQ)
   have g2:Hid _:=F.out.at (mC _ (mC _ mQ))
   have g3:Hid _:=ak4 (F.out.at mQ) lst.out
   have g4:Hid _:=ak5 (F.out.at mQ) lst.out lc.out
   have g5:Hid _:=ak7 (F.out.at (mC _ mQ)) lz.out
   have g6:Hid _:=ak8 (F.out.at (mC _ mQ)) lz.out lc.out
   have g7:Hid _:=ag5 (F.out.at (mC _ mQ))
   have e1:Hid (∀w,_):=fun w=>ab9 st lst.out w
   have e2:Hid (∀w,_):=fun w=>P7 ch lc.out w
   have e3:Hid (∀w,_):=fun w=>P7 hs lh.out w
   have hcn:((n+1:Nat):Int)=(n:Int)+1:=by omega
   go_wp2_with(first
    | refine acP rfl kO 2 rfl (dP st) _ g1.out underlying30 rfl (acH lst.out) ?_
    | refine ak9 rfl kS rfl _ (Iv .u8 st) _ _ g2.out underlying30 rfl (OB lst.out) ?_
    | refine xH rfl (Iv .u8 st) rfl rfl e1.out aeK ?_
    | refine acP rfl kO 14 rfl (dP ch) _ g3.out underlying25 rfl (dK lc.out) ?_
    | refine acP rfl kR 141 rfl (dP ch) _ g5.out underlying25 rfl (dK lc.out) ?_
    | refine xH rfl (Iv .u8 ch) rfl rfl e2.out iC ?_
    | refine acP rfl kO 46 rfl (dP hs) _ g4.out underlying25 rfl (dK lh.out) ?_
    | refine acP rfl kR 173 rfl (dP hs) _ g6.out underlying25 rfl (dK lh.out) ?_
    | refine xH rfl (Iv .u8 hs) rfl rfl e3.out iC ?_
    | refine wpList_load_mid rfl 37 _ rfl kR 0 rfl (WL s z) _ g7.out underlying37 rfl (OC lz.out) ?_)
   clear q1 q2 q3 g1 g2 g3 g4 g5 g6 g7 e1 e2 e3
   refine Calls.mono (uA s z lz.out hs9.out.1 hs9.out.2 _) ?_
   rintro e9 w31 ⟨rfl,hb⟩
   replace KO:Hid _:=cZ.later KO.out hb
   replace F:Hid _:=F.out.later hb (nQ _)
   clear hb
   have lb:Hid ((sN 1 s z).length=148):=by show _=_;rw[vD,lz.out]
   have bb:Hid (aC (sN 1 s z)):=abD s z bz.out
   have ISW:Hid (∀i,4≤i→∀v,qW ((sN 1 s z).set i v) 148 1=true):=fun i hi v=>abE s z lz.out i hi v
   obtain⟨b,eb⟩:∃q,sN 1 s z=q:=⟨_,rfl⟩
   rw[eb]at lb bb ISW⊢
   clear eb
   replace F:Hid (Fd w g ta zs c [(kU,Iv .u8 G,25),(kG,Iv .u8 gt,25)] w31):=F.out.sub (fun q hq=>by simp only[List.mem_cons,nY,or_false]at hq⊢;rcases hq with rfl|rfl<;>simp)
   have KA:Hid _:=hAN w31 (.cells (Iv .u8 (aA 148)) 46)
   go_wp2_with(refine wpPr rfl 46 _ _ rfl w31.heap.size (Iv .u8 b) rfl rfl _ _ KA.out (acG lb.out) (aiT lb.out) (aG _ _) (fun w32 hP=>sH ?_))
   refine aH ?_
   have hb:Below w31.heap.size w31 w32:=hP.below _ _ (cV _ _) (nQ _)
   have hgk:=F.out.lt
   have KW:Hid (fA g w31 w32):=(fA.refl g w31).more hb (nQ _) hgk
   have hnk:Hid (∀r∈([(kU,Iv .u8 G,25),(kG,Iv .u8 gt,25)]:List (Nat×Array Value×TypeId)),r.1≠w31.heap.size):=fun r hr=>Nat.ne_of_lt (F.out.row r hr).2.1
   have hle:w31.heap.size≤w31.heap.size:=nQ _
   replace F:Hid _:=F.out.newRow hP
   obtain⟨kB,eb⟩:∃x,x=w31.heap.size:=⟨_,rfl⟩
   rw[←eb]at F hgk hnk⊢
   have hkb:w31.heap.size≤kB:=Nat.le_of_eq eb.symm
   clear eb hP KA hb hle
   go_wp2_with fail
   have hdr:Below w32.heap.size w32 w32.drew:=bDr (Below.refl _ _) 1
   replace KW:Hid _:=KW.out.more hdr KW.out.size F.out.lt
   replace F:Hid _:=F.out.later hdr (nQ _)
   clear hdr
   refine wRt 11 (fun w'=>∃y:Wp (fun v=>Fd w g ta zs c [(kB,Iv .u8 b,46),(kU,Iv .u8 G,25),(kG,Iv .u8 gt,25)] v),w'=y.w) (.held [0,5] (.tail 1 (.held [2,3,4] (.tail 6 (.held [7,8,9,10] (.last 11 .done)))))) jE (by kernel_rfl) ⟨⟨_,F.out⟩,rfl⟩ ?_
   obtain⟨w33,eV⟩:∃q,q=w32.drew:=⟨_,rfl⟩
   rw[←eV]at F KW⊢
   clear eV
   refine wTh ?_
   simp only[oS]
   refine aB rfl (.pointer (some ⟨g,0,none⟩)) (fun w'=>by kernel_rfl) ?_
   simp only[pS]
   refine aB rfl (.pointer (some ⟨g,0,none⟩)) (fun w'=>by kernel_rfl) ?_
   simp only[pS]
   refine wqN ?_
   refine wTt ?_
   simp only[oS]
   go_wp2_with fail
   refine(lH g ta zs c 108 _ F.out.drw HB.out hn9 (by decide)).mono ?_
   rintro e9 w34 ⟨i,hi0,hi1,rfl,hD,cs,hP⟩
   have hK:=(fA.refl g _).put hP
   replace KW:Hid _:=KW.out.put hP
   replace F:Hid _:=F.out.keep hD hK
   clear hD hP hK
   go_wp2_with fail
   refine⟨⟨⟨_,F.out⟩,rfl⟩,?_⟩
   have hw4:=afY i hi0 hi1
   obtain⟨j,ej⟩:∃q,q=8+i.toNat:=⟨_,rfl⟩
   rw[←ej]at hw4
   have hj4:4≤j:=by omega
   have hj:j<148:=by omega
   clear ej hi0 hi1
   have hjl:j<b.length:=by rw[lb.out];exact hj
   obtain⟨s0,es0⟩:∃q,b.getD j 0=q:=⟨_,rfl⟩
   have ES:Hid _:=es0
   clear es0
   refine wTh ?_
   simp only[oS]
   refine aB rfl (.int .i64 (IntKind.i64.wrap (8+i))) (fun w'=>by kernel_rfl) ?_
   simp only[pS]
   rw[hw4]
   clear hw4
   refine dL rfl (.pointer (some ⟨kB,j,none⟩)) (fun w' hw'=>SC 46 _ _ rfl kB j 148 rfl rfl underlying46 (by kernel_rfl) (by kernel_rfl) hj w') ?_
   simp only[pS]
   refine dL rfl (.int .u8 s0) (fun w' hw'=>by obtain⟨q,rfl⟩:=hw';exact mF 5 _ rfl ⟨kB,j,none⟩ rfl .u8 underlying5 _ _ (by have h9:=(Sl.of_row (q.p.at mQ)).2 j hjl;rw[Nat.zero_add,ES.out]at h9;exact h9)) ?_
   simp only[pS]
   refine wqN ?_
   refine wTt ?_
   simp only[oS]
   go_wp2_with fail
   refine(lH g ta zs c 255 _ F.out.drw HB.out hn9 (by decide)).mono ?_
   rintro e9 w35 ⟨u,hu0,hu1,rfl,hD,cs,hP⟩
   have hK:=(fA.refl g _).put hP
   replace KW:Hid _:=KW.out.put hP
   replace F:Hid _:=F.out.keep hD hK
   clear hD hP hK
   go_wp2_with fail
   refine⟨⟨⟨_,F.out⟩,rfl⟩,?_⟩
   have hwr:=afX u hu0 hu1
   refine wTh ?_
   simp only[oS]
   refine aB rfl (.int .i64 (IntKind.i64.wrap (1+u))) (fun w'=>by kernel_rfl) ?_
   simp only[pS]
   refine aB rfl (.int .u8 (IntKind.u8.wrap (IntKind.i64.wrap (1+u)))) (fun w'=>by kernel_rfl) ?_
   simp only[pS]
   refine aB rfl (.int .u8 (bits .xor .u8 s0 (IntKind.u8.wrap (IntKind.i64.wrap (1+u))))) (fun w'=>by kernel_rfl) ?_
   simp only[pS]
   refine dL rfl (.pointer (some ⟨kB,j,none⟩)) (fun w' hw'=>SC 46 _ _ rfl kB j 148 rfl rfl underlying46 (by kernel_rfl) (by kernel_rfl) hj w') ?_
   simp only[pS]
   refine wqN ?_
   rw[hwr]
   have hx0:=bb.out j
   rw[ES.out]at hx0
   have hxx:=akE s0 (1+u) hx0 (by omega)
   obtain⟨V1,eV⟩:∃q,bits .xor .u8 s0 (1+u)=q:=⟨_,rfl⟩
   rw[eV]at hxx⊢
   have hV:Hid _:=hxx
   clear eV hxx hwr hx0
   have co:w35.cell? ⟨kB,j,none⟩=some (.int .u8 s0):=by have h9:=(Sl.of_row (F.out.at mQ)).2 j hjl;rw[Nat.zero_add,ES.out]at h9;exact h9
   have fv:w35.frozen? ⟨kB,j,none⟩=false:=frozen_of_row _ _ _ _ _ (F.out.at mQ)
   refine wTl ?_
   simp only[oS]
   go_wp2_with fail
   refine aQ ?_
   have hP:=qJ (F.out.at mQ) j (.int .u8 V1)
   rw[bZ]at hP
   obtain⟨w36,eW⟩:∃q,q=w35.setCell ⟨kB,j,none⟩ (.int .u8 V1):=⟨_,rfl⟩
   rw[←eW]at hP⊢
   replace KW:Hid _:=KW.out.more (hP.below kB _ (Below.refl _ _) (nQ _)) hkb hgk
   replace KO:Hid _:=cZ.keeps KO.out KW.out hgB
   replace F:Hid _:=F.out.tailH.putRow hP hgk hnk.out
   have hxl:Hid ((b.set j V1).length=148):=by show _=_;rw[lJ,lb.out]
   have bx:Hid (aC (b.set j V1)):=bb.out.set j V1 hV.out
   have IS1:Hid _:=ISW.out j hj4 V1
   obtain⟨x,ex⟩:∃q,b.set j V1=q:=⟨_,rfl⟩
   rw[ex]at hxl bx IS1 F
   clear ex eW hP co fv ES hjl hj hj4 hu0 hu1 hV hnk hgk hkb KW ISW bb lb
   have CP:=tZ kB x 5 w36 IS1.out bx.out 148 (by rw[hxl.out];exact nQ _) (by decide) (TD.of_sl (Sl.of_row (F.out.at mQ))) (F.out.row _ mQ).2.1
   have lz1:Hid ((x.drop 8).length=140):=by show _=_;rw[List.length_drop,hxl.out]
   have bz1:Hid (aC (x.drop 8)):=cE bx.out 8
   obtain⟨r1,er1⟩:∃q,aF (aP x 4 4) 0=q:=⟨_,rfl⟩
   obtain⟨z1,ez1⟩:∃q,x.drop 8=q:=⟨_,rfl⟩
   rw[er1,ez1]at CP
   rw[ez1]at lz1 bz1
   have CPH:Hid _:=CP
   clear CP er1 ez1 hxl bx IS1
   go_wp2_with fail
   refine Calls.mono (CPH.out) ?_
   rintro e9 w37 ⟨rfl,hb⟩
   replace KO:Hid _:=cZ.later KO.out hb
   replace F:Hid _:=F.out.later hb (nQ _)
   clear hb
   clear CPH
   replace F:Hid _:=F.out.tailH
   have KA:Hid _:=hAN w37 (.cells ((WL 0 (aA 140)).toArray) 37)
   go_wp2_with(refine wpPr rfl 37 _ _ rfl w37.heap.size ((WL r1 z1).toArray) rfl rfl _ _ KA.out (OD lz1.out) (akI lz1.out) (uI _ _) (fun w38 hP=>sH ?_))
   refine aH ?_
   have hb:Below w37.heap.size w37 w38:=hP.below _ _ (cV _ _) (nQ _)
   replace KO:Hid _:=cZ.later KO.out hb
   replace F:Hid _:=F.out.newRow hP
   obtain⟨kQ,eb⟩:∃x,x=w37.heap.size:=⟨_,rfl⟩
   rw[←eb]at F⊢
   clear eb hP KA hb
   obtain⟨k1,who,s1,c1,h1,m1,l1,l2,l3,EQ0,CI0,CS0⟩:=ZI lgt.out bgt.out lG.out yG.out lz1.out bz1.out LI2 (n+1) HL2.out HLB2.out (by omega)
   have L1:Hid _:=l1
   have L2:Hid _:=l2
   have L3:Hid _:=l3
   have EQ:Hid _:=EQ0
   have CI:Hid _:=CI0
   have CS:Hid _:=CS0
   clear l1 l2 l3 EQ0 CI0 CS0
   go_wp2_with fail
   have FW:Hid (∀v,J0 w38 v→_):=fun v h=>F.out.later h (nQ _)
   have FC:Hid (∀v,J0 w38 v→∀j,j<(n+1)*32→v.cell? ⟨kb,j,none⟩=some (.int .u8 (LI2.getD j 0))):=fun v h=>cZ.kept (cZ.later KO.out h) HL2.out
   have FT:Hid (∀v,J0 w38 v→cN v∧gK v∧3<v.heap.size):=fun v h=>HT.out v (FW.out v h).bel
   have H:J0 w38 w38.drew:=bDr (Below.refl _ _) 1
   refine wRt 8 (fun w'=>∃x:yM w38.heap.size w38,w'=x.w) (.held [0,1,3,5] (.fork 2 (.fork 4 (.fork 6 (.tail 7 (.last 8 .done)) 7 (.tail 6 (.last 8 .done))) 7 (.tail 4 (.tail 6 (.last 8 .done)))) 7 (.tail 2 (.tail 4 (.tail 6 (.last 8 .done)))))) jE (by kernel_rfl) ⟨⟨_,H⟩,rfl⟩ ?_
   obtain⟨w39,eV⟩:∃y,y=w38.drew:=⟨_,rfl⟩
   rw[←eV]at H⊢
   clear eV
   refine wTh ?_
   simp only[oS]
   refine wqLr rfl 25 _ rfl kG rfl _ (Iv .u8 gt) _ _ (fun w' hw'=>by obtain⟨x,rfl⟩:=hw';exact(FW.out _ x.bel).at (mC _ (mC _ mQ))) underlying25 rfl (aI lgt.out) ?_
   simp only[pS]
   refine wqLr rfl 25 _ rfl kU rfl _ (Iv .u8 G) _ _ (fun w' hw'=>by obtain⟨x,rfl⟩:=hw';exact(FW.out _ x.bel).at (mC _ mQ)) underlying25 rfl (aI lG.out) ?_
   simp only[pS]
   refine aB rfl (.slice (some ⟨kb,0,none⟩) (n+1) kc) (fun w'=>by kernel_rfl) ?_
   simp only[pS]
   refine wqLr rfl 37 _ rfl kQ rfl _ ((WL r1 z1).toArray) _ _ (fun w' hw'=>by obtain⟨x,rfl⟩:=hw';exact(FW.out _ x.bel).at mQ) underlying37 rfl (OD lz1.out) ?_
   simp only[pS]
   refine wqN ?_
   apply oR (.last 8 .done) (fun(gb kg ck k:Nat) v=>K0 w38 k v)
   intro h31
   apply qI (.tail 7 (.last 8 .done)) (fun(gb kg ck:Nat) v=>J0 w38 v)
   intro h30
   apply oR (.tail 6 (.last 8 .done)) (fun(gb:Nat)=>K2 w38 LI2)
   intro h21
   apply qI (.fork 6 (.tail 7 (.last 8 .done)) 7 (.tail 6 (.last 8 .done))) (fun(gb:Nat)=>J2 w38 LI2)
   intro h20
   apply pQ (.tail 4 (.tail 6 (.last 8 .done))) (K1 w38)
   intro h11
   apply cT (.fork 4 (.fork 6 (.tail 7 (.last 8 .done)) 7 (.tail 6 (.last 8 .done))) 7 (.tail 4 (.tail 6 (.last 8 .done)))) (J1 w38)
   intro h10
   apply cT (.tail 2 (.tail 4 (.tail 6 (.last 8 .done)))) (K0 w38)
   intro h01
   ·refine wTf ?_ ?_
    ·exact DU (mk:=fun c=>.slice (some ⟨c,0,none⟩) 0 0) (Y:=J1 w38) rfl rfl (by kernel_rfl) ⟨pX H _,Rk.new H _ _⟩ fun c v q=>⟨⟨⟨v,q.1⟩,rfl⟩,h10.out c v q⟩
    ·exact DU (mk:=fun c=>.pointer (some ⟨c,0,none⟩)) (Y:=K0 w38) rfl rfl (by kernel_rfl) ⟨pX H _,Rk.new H _ _⟩ fun c v q=>⟨⟨⟨v,q.1⟩,rfl⟩,h01.out c v q⟩
   ·intro k9 v q
    exact wTt (DU (mk:=fun c=>.slice (some ⟨c,0,none⟩) 0 0) (Y:=fun c v=>K1 w38 c k9 v) rfl rfl (by kernel_rfl) ⟨pX q.1 _,Rk.new q.1 _ _,q.2.later (cV _ _),Nat.ne_of_lt q.2.lt⟩ fun c v q=>⟨⟨⟨v,q.1⟩,rfl⟩,h11.out c k9 v q⟩)
   ·intro gb v q
    refine wTf ?_ ?_
    ·exact xD rfl rfl rfl rfl rfl HL2.out hn11 FC.out q.1 q.2 fun kg ck v h1 h2 _=>⟨⟨⟨v,h1⟩,rfl⟩,h20.out gb kg ck v ⟨h1,h2⟩⟩
    ·exact DU (mk:=fun c=>.pointer (some ⟨c,0,none⟩)) (Y:=fun c v=>K1 w38 gb c v) rfl rfl (by kernel_rfl) ⟨pX q.1 _,q.2.later (cV _ _),Rk.new q.1 _ _,Nat.ne_of_gt q.2.lt⟩ fun c v q=>⟨⟨⟨v,q.1⟩,rfl⟩,h11.out gb c v q⟩
   ·intro gb k9 v q
    exact wTt (xD rfl rfl rfl rfl rfl HL2.out hn11 FC.out q.1 q.2.1 fun kg ck v h1 h2 h3=>⟨⟨⟨v,h1⟩,rfl⟩,h21.out gb kg ck k9 v ⟨h1,h2,q.2.2.1.1,(h3 _ q.2.2.1.lt q.2.2.2).trans q.2.2.1.2⟩⟩)
   ·intro gb kg ck v q
    refine wTf ?_ ?_
    ·exact KT (CI.out r1 kg ck v (q.2) (FT.out v (q.1)).1 (FT.out v (q.1)).2.1 (FT.out v (q.1)).2.2) rfl rfl (by kernel_rfl) fun v2 hb=>⟨⟨⟨v2,SY q.1 hb⟩,rfl⟩,h30.out gb kg ck v2 (SY q.1 hb)⟩
    ·exact DU (mk:=fun c=>.pointer (some ⟨c,0,none⟩)) (Y:=fun c v=>K2 w38 LI2 kg ck c v) rfl rfl (by kernel_rfl) ⟨pX q.1 _,Sl.later q.2 (cV _ _) q.2.1,Rk.new q.1 _ _⟩ fun c v q=>⟨⟨⟨v,q.1⟩,rfl⟩,h21.out gb kg ck c v q⟩
   ·intro gb kg ck k9 v q
    exact wTt (KT (CI.out r1 kg ck v (q.2.1) (FT.out v (q.1)).1 (FT.out v (q.1)).2.1 (FT.out v (q.1)).2.2) rfl rfl (by kernel_rfl) fun v2 hb=>⟨⟨⟨v2,SY q.1 hb⟩,rfl⟩,h31.out gb kg ck k9 v2 ⟨SY q.1 hb,q.2.2.later hb⟩⟩)
   ·intro gb kg ck v q
    exact wTt (DU (mk:=fun c=>.pointer (some ⟨c,0,none⟩)) (Y:=K0 w38) rfl rfl (by kernel_rfl) ⟨pX q _,Rk.new q _ _⟩ fun c v q=>⟨⟨⟨v,q.1⟩,rfl⟩,h31.out gb kg ck c v q⟩)
   intro gb kg ck kX w40 q
   have HQ:Hid _:=q
   clear q H FC FT
   refine wTl ?_
   simp only[oS]
   go_wp2_with(refine wpPr rfl 44 _ _ rfl kX ((mZ k1 who s1 c1 h1 m1).toArray) rfl rfl _ _ HQ.out.2.2 (fZ L1.out L2.out L3.out) (WF L1.out L2.out L3.out) (lC _ _ _ _ _ _) (fun w41 hP=>sH ?_))
   refine aH ?_
   refine aQ ?_
   have hb9:J0 w38 w41:=hP.below _ _ HQ.out.1 HQ.out.2.1
   replace KO:Hid _:=cZ.later KO.out hb9
   have F9:=FW.out _ hb9
   have hg9:kX≠g:=by have h1:=F.out.lt;have h2:=HQ.out.2.1;omega
   have F8:=F9.addRow _ _ _ hg9 hP.here
   replace F:Hid _:=F8
   clear F8 F9 hg9 hb9 hP HQ FW
   go_wp2_with fail
   have FW:Hid (∀v,J0 w41 v→_):=fun v h=>F.out.later h (nQ _)
   have FC:Hid (∀v,J0 w41 v→∀j,j<(n+1)*32→v.cell? ⟨kb,j,none⟩=some (.int .u8 (LI2.getD j 0))):=fun v h=>cZ.kept (cZ.later KO.out h) HL2.out
   have FT:Hid (∀v,J0 w41 v→cN v∧gK v∧3<v.heap.size):=fun v h=>HT.out v (FW.out v h).bel
   have H:J0 w41 w41.drew:=bDr (Below.refl _ _) 1
   refine wRt 8 (fun w'=>∃x:yM w41.heap.size w41,w'=x.w) (.held [0,1,3,5] (.fork 2 (.fork 4 (.fork 6 (.tail 7 (.last 8 .done)) 7 (.tail 6 (.last 8 .done))) 7 (.tail 4 (.tail 6 (.last 8 .done)))) 7 (.tail 2 (.tail 4 (.tail 6 (.last 8 .done)))))) jE (by kernel_rfl) ⟨⟨_,H⟩,rfl⟩ ?_
   obtain⟨w42,eV⟩:∃y,y=w41.drew:=⟨_,rfl⟩
   rw[←eV]at H⊢
   clear eV
   refine wTh ?_
   simp only[oS]
   refine wqLr rfl 25 _ rfl kG rfl _ (Iv .u8 gt) _ _ (fun w' hw'=>by obtain⟨x,rfl⟩:=hw';exact(FW.out _ x.bel).at (mC _ (mC _ (mC _ mQ)))) underlying25 rfl (aI lgt.out) ?_
   simp only[pS]
   refine wqLr rfl 25 _ rfl kU rfl _ (Iv .u8 G) _ _ (fun w' hw'=>by obtain⟨x,rfl⟩:=hw';exact(FW.out _ x.bel).at (mC _ (mC _ mQ))) underlying25 rfl (aI lG.out) ?_
   simp only[pS]
   refine aB rfl (.slice (some ⟨kb,0,none⟩) (n+1) kc) (fun w'=>by kernel_rfl) ?_
   simp only[pS]
   refine wqLr rfl 37 _ rfl kQ rfl _ ((WL r1 z1).toArray) _ _ (fun w' hw'=>by obtain⟨x,rfl⟩:=hw';exact(FW.out _ x.bel).at (mC _ mQ)) underlying37 rfl (OD lz1.out) ?_
   simp only[pS]
   refine wqN ?_
   apply oR (.last 8 .done) (fun(gb kg ck k:Nat) v=>K0 w41 k v)
   intro h31
   apply qI (.tail 7 (.last 8 .done)) (fun(gb kg ck:Nat) v=>J0 w41 v)
   intro h30
   apply oR (.tail 6 (.last 8 .done)) (fun(gb:Nat)=>K2 w41 LI2)
   intro h21
   apply qI (.fork 6 (.tail 7 (.last 8 .done)) 7 (.tail 6 (.last 8 .done))) (fun(gb:Nat)=>J2 w41 LI2)
   intro h20
   apply pQ (.tail 4 (.tail 6 (.last 8 .done))) (K1 w41)
   intro h11
   apply cT (.fork 4 (.fork 6 (.tail 7 (.last 8 .done)) 7 (.tail 6 (.last 8 .done))) 7 (.tail 4 (.tail 6 (.last 8 .done)))) (J1 w41)
   intro h10
   apply cT (.tail 2 (.tail 4 (.tail 6 (.last 8 .done)))) (K0 w41)
   intro h01
   ·refine wTf ?_ ?_
    ·exact DU (mk:=fun c=>.slice (some ⟨c,0,none⟩) 0 0) (Y:=J1 w41) rfl rfl (by kernel_rfl) ⟨pX H _,Rk.new H _ _⟩ fun c v q=>⟨⟨⟨v,q.1⟩,rfl⟩,h10.out c v q⟩
    ·exact DU (mk:=fun c=>.pointer (some ⟨c,0,none⟩)) (Y:=K0 w41) rfl rfl (by kernel_rfl) ⟨pX H _,Rk.new H _ _⟩ fun c v q=>⟨⟨⟨v,q.1⟩,rfl⟩,h01.out c v q⟩
   ·intro k9 v q
    exact wTt (DU (mk:=fun c=>.slice (some ⟨c,0,none⟩) 0 0) (Y:=fun c v=>K1 w41 c k9 v) rfl rfl (by kernel_rfl) ⟨pX q.1 _,Rk.new q.1 _ _,q.2.later (cV _ _),Nat.ne_of_lt q.2.lt⟩ fun c v q=>⟨⟨⟨v,q.1⟩,rfl⟩,h11.out c k9 v q⟩)
   ·intro gb v q
    refine wTf ?_ ?_
    ·exact xD rfl rfl rfl rfl rfl HL2.out hn11 FC.out q.1 q.2 fun kg ck v h1 h2 _=>⟨⟨⟨v,h1⟩,rfl⟩,h20.out gb kg ck v ⟨h1,h2⟩⟩
    ·exact DU (mk:=fun c=>.pointer (some ⟨c,0,none⟩)) (Y:=fun c v=>K1 w41 gb c v) rfl rfl (by kernel_rfl) ⟨pX q.1 _,q.2.later (cV _ _),Rk.new q.1 _ _,Nat.ne_of_gt q.2.lt⟩ fun c v q=>⟨⟨⟨v,q.1⟩,rfl⟩,h11.out gb c v q⟩
   ·intro gb k9 v q
    exact wTt (xD rfl rfl rfl rfl rfl HL2.out hn11 FC.out q.1 q.2.1 fun kg ck v h1 h2 h3=>⟨⟨⟨v,h1⟩,rfl⟩,h21.out gb kg ck k9 v ⟨h1,h2,q.2.2.1.1,(h3 _ q.2.2.1.lt q.2.2.2).trans q.2.2.1.2⟩⟩)
   ·intro gb kg ck v q
    refine wTf ?_ ?_
    ·exact KT (CS.out r1 kg ck v (q.2)) rfl rfl (by kernel_rfl) fun v2 hb=>⟨⟨⟨v2,SY q.1 hb⟩,rfl⟩,h30.out gb kg ck v2 (SY q.1 hb)⟩
    ·exact DU (mk:=fun c=>.pointer (some ⟨c,0,none⟩)) (Y:=fun c v=>K2 w41 LI2 kg ck c v) rfl rfl (by kernel_rfl) ⟨pX q.1 _,Sl.later q.2 (cV _ _) q.2.1,Rk.new q.1 _ _⟩ fun c v q=>⟨⟨⟨v,q.1⟩,rfl⟩,h21.out gb kg ck c v q⟩
   ·intro gb kg ck k9 v q
    exact wTt (KT (CS.out r1 kg ck v (q.2.1)) rfl rfl (by kernel_rfl) fun v2 hb=>⟨⟨⟨v2,SY q.1 hb⟩,rfl⟩,h31.out gb kg ck k9 v2 ⟨SY q.1 hb,q.2.2.later hb⟩⟩)
   ·intro gb kg ck v q
    exact wTt (DU (mk:=fun c=>.pointer (some ⟨c,0,none⟩)) (Y:=K0 w41) rfl rfl (by kernel_rfl) ⟨pX q _,Rk.new q _ _⟩ fun c v q=>⟨⟨⟨v,q.1⟩,rfl⟩,h31.out gb kg ck c v q⟩)
   intro gb kg ck kY w43 q
   have HQ:Hid _:=q
   clear q H FC FT
   refine wTl ?_
   simp only[oS]
   go_wp2_with(refine wpPr rfl 44 _ _ rfl kY ((mZ k1 who s1 c1 h1 m1).toArray) rfl rfl _ _ HQ.out.2.2 (fZ L1.out L2.out L3.out) (WF L1.out L2.out L3.out) (lC _ _ _ _ _ _) (fun w44 hP=>sH ?_))
   refine aH ?_
   refine aQ ?_
   have hb9:J0 w41 w44:=hP.below _ _ HQ.out.1 HQ.out.2.1
   replace KO:Hid _:=cZ.later KO.out hb9
   have F9:=FW.out _ hb9
   have hg9:kY≠g:=by have h1:=F.out.lt;have h2:=HQ.out.2.1;omega
   have F8:=F9.addRow _ _ _ hg9 hP.here
   replace F:Hid _:=F8
   clear F8 F9 hg9 hb9 hP HQ FW
   have B9:Hid _:=F.out.bel
   clear KO
   have G0:Hid _:=F.out.at (mC _ mQ)
   have G1:Hid _:=F.out.at mQ
   go_wp2_with(with_reducible refine aJ ?_;first
    | refine wpLr rfl 44 _ rfl kX rfl _ ((mZ k1 who s1 c1 h1 m1).toArray) _ _ G0.out underlying44 rfl (fZ L1.out L2.out L3.out) ?_
    | refine wpLr rfl 44 _ rfl kY rfl _ ((mZ k1 who s1 c1 h1 m1).toArray) _ _ G1.out underlying44 rfl (fZ L1.out L2.out L3.out) ?_
    | refine SV rfl (mZ k1 who s1 c1 h1 m1).toArray rfl rfl EQ.out aeL ?_)
   clear G0 G1
   go_ret
   exact⟨rfl,B9.out⟩
theorem acE (a:Option Addr) (zs:LI) (cap:Nat) (w:World) (hb:aC zs) (hmax:zs.length≤9223372036854775807)
 (hc:∀i,i<zs.length→∃b o,a=some ⟨b,o,none⟩∧b<w.heap.size∧w.cell? ⟨b,o+i,none⟩=some (.int .u8 (zs.getD i 0))) (ht:cN w) (he:gK w) (h4:3<w.heap.size):
 Calls prog 3 #[.slice a zs.length cap] w fun e w'=>e=.returned (.bool true)∧Below w.heap.size w w':=by
 by_cases h:1048576<zs.length
 ·have hi:(1048576:Int)<zs.length:=by omega
  clear hc ht he h4
  generalize zs.length=n at*
  go_enter func3,ntmps3
  go_wp2
  go_ret
  exact⟨rfl,Below.refl _ _⟩
 ·exact ZK zs a cap (by omega) hb w ht he h4 hc
end Go.Proofs.YtmjccemdldidaaaGreatDoor
