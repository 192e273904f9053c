import Derived.Test.YtgcepckaolkeoaaGreatDoorMY25
namespace Go.Proofs.YtgcepckaolkeoaaGreatDoor
open Go.RowKit
open Go.Proofs.Tryz
open Go renaming heap_alloc_new → hAN, wpList_load_row → wpLr, wpQuiet_nil → wqN
open Go.World renaming size_alloc → wU
open List renaming length_append → lQ, length_map → lU
open Nat renaming le_refl → nQ, lt_of_lt_of_le → nJ
set_option linter.unusedVariables false
theorem vX (g f n c k:Nat) (h:k<n) (w:World):(Instr.indexAt 37 (.slice (some ⟨g,f,none⟩) n c) (.int .i64 (k:Int))).run prog w=.ok (.pointer (some ⟨g,f+k*32,none⟩)) w:=by
 obtain⟨i,hi⟩:=info_of_underlying underlying22
 have hsz:i.size=32:=by
  have:=iB
  rw[hi]at this
  simpa using this
 have e:(⟨g,f,none⟩:Addr).add (k*32)=⟨g,f+k*32,none⟩:=by
  unfold Addr.add
  split
  ·simp_all
  ·rfl
 simp[Instr.indexAt,run_underlying underlying37,asIntOf,go_sem,h,sizeOf,typeInfo,hi,hsz]
theorem rM {ops:Array Oper} {C:World→Prop} {Q:Act→Prop} {a:Act} {o:Oper} {rest:List Oper} (hgd:o.guard=none) (x y:Operand) (ho:o.op=.indexAddr 37 x y) (g f n c k:Nat) (hx:a.eval x=.slice (some ⟨g,f,none⟩) n c) (hy:a.eval y=.int .i64 (k:Int)) (hk:k<n)
 (h:wpQuiet prog ops C Q rest (a.put o.dst (.pointer (some ⟨g,f+k*32,none⟩)))):wpQuiet prog ops C Q (o::rest) a:=by
 refine aB hgd _ (fun w=>?_) h
 unfold execOp
 simp only[ho,hx,hy,Sem.run_bind,vX g f n c k hk,Result.andThen_ok,Sem.run_pure]
theorem IC {ops:Array Oper} {C:World→Prop} {Q:Act→Prop} {a:Act} {o:Oper} {rest:List Oper} (hgd:o.guard=none) (t':TypeId) (x y:Operand) (ho:o.op=.binOp .eql 22 x y t') (A M:List Int) (hx:a.eval x=.agg (Iv .u8 A)) (hy:a.eval y=.agg (Iv .u8 M)) (hA:A.length=32) (hM:M.length=32)
 (h:wpQuiet prog ops C Q rest (a.put o.dst (.bool (decide (A=M))))):wpQuiet prog ops C Q (o::rest) a:=by
 refine aB hgd _ (fun w=>?_) h
 unfold execOp
 simp only[ho,hx,hy,Sem.run_bind,run_eqGuard_agg w .eql _ x y _ _ pM,run_eql_struct,DX A M hA hM w,Result.andThen_ok,Sem.run_pure]
abbrev iO (L:List Int) (k:Nat):List Int:=cI L (k*32) 32
theorem pT {L:List Int} {n k:Nat} (hL:L.length=n*32) (hk:k<n):(iO L k).length=32:=bP L _ 32 (n*32) hL (by omega)
theorem Sl.key {w:World} {g o n k:Nat} {L:List Int} (h:Sl w g o L) (hL:L.length=n*32) (hk:k<n):w.rangeAt g (o+k*32) (fK (iO L k)):=by
 intro j v hj
 have hl:=pT hL hk
 have hlt:j<32:=by have:=(List.getElem?_eq_some_iff.1 hj).1;rw[lU,hl]at this;exact this
 rw[show o+k*32+j=o+(k*32+j) by omega,h.2 (k*32+j) (by omega),←hj]
 unfold iO cI
 simp[List.getD_eq_getElem?_getD,hlt]
 rw[List.getElem?_eq_getElem (by omega)]
 rfl
def pQ (L key:List Int) (n:Nat):Option Nat:=(List.range n).find? fun i=>decide (iO L i=key)
theorem EL {L key:List Int} {n k:Nat} (hk:k<n) (he:iO L k=key) (hb:∀j,j<k→iO L j≠key):pQ L key n=some k:=by
 unfold pQ
 rw[List.find?_range_eq_some]
 exact⟨by simpa using he,by simpa using hk,fun j hj=>by simpa using hb j hj⟩
theorem EJ {L key:List Int} {n:Nat} (hb:∀j,j<n→iO L j≠key):pQ L key n=none:=by
 unfold pQ
 rw[List.find?_eq_none]
 intro j hj
 simpa using hb j (List.mem_range.1 hj)
theorem MV {L key:List Int} {n k:Nat} (h:pQ L key n=some k):k<n∧iO L k=key:=by
 unfold pQ at h
 rw[List.find?_range_eq_some]at h
 exact⟨by simpa using h.2.1,by simpa using h.1⟩
def acO:Option Nat→Int
 | some k=>k
 | none=> -1
theorem sA {L:List Int} {n k:Nat} (hL:L.length=n*32) (hk:k<n):(prog.info? 22).map (·.size)=some (fK (iO L k)).length:=by rw[aU,pT hL hk];exact iB
set_option maxRecDepth 10000 in
set_option maxHeartbeats 2000000 in
theorem T7 (L key:List Int) (n:Nat) (hL:L.length=n*32) (hk:key.length=32) (hn:n≤1048576) (g cap:Nat) (w:World) (hS:Sl w g 0 L):
 Calls prog 71 #[.slice (some ⟨g,0,none⟩) n cap,.agg (Iv .u8 key)] w fun e w'=>e=.returned (.int .i64 (acO (pQ L key n)))∧Below w.heap.size w w':=by
 have HL:Hid _:=hL
 have HK:Hid _:=hk
 have R0:Hid _:=(Rn.start w).alloc (Iv .u8 key) 22
 have HS:Hid _:=hS
 obtain⟨W,hW⟩:∃W,w.alloc (.cells (Iv .u8 key) 22)=W:=⟨_,rfl⟩
 have HB:Hid (Below w.heap.size w W):=by show Below _ _ _;rw[←hW];exact(Below.refl _ _).alloc (nQ _) _
 have R1:Hid (W.heap[w.heap.size]? =some (.cells (Iv .u8 key) 22)):=by show _=_;rw[←hW];exact hAN _ _
 clear hL hk R0 hS
 go_enter func71,ntmps71
 go_wp2_with fail
 clear hW
 go_loopw [8] (fun i wr=>∃k:Nat,k≤n∧i=.int .i64 k∧(∀j,j<k→iO L j≠key)∧Below W.heap.size W wr) (fun i _=>n - (intOf i).toNat)
 case atStart=>exact⟨0,Nat.zero_le _,rfl,fun j hj=>absurd hj (Nat.not_lt_zero _),Below.refl _ _⟩
 case round=>
  obtain⟨k,hk,rfl,hb,hbr⟩:=hrel
  by_cases hlt:k<n
  ·have HBR:Hid _:=hbr
   have HBJ:Hid _:=hb
   clear hbr hb
   go_wp2_with fail
   have hlb:Hid (w.heap.size<W.heap.size):=(Array.getElem?_eq_some_iff.1 R1.out).1
   refine nM W.heap.size W uO (by kernel_rfl) HBR.out ?_
   refine wqLr rfl 22 _ rfl w.heap.size rfl _ (Iv .u8 key) _ _ (fun w' hw'=>by obtain⟨x,rfl⟩:=hw';exact(x.bel.block _ hlb.out).trans R1.out) underlying22 rfl (aS HK.out) ?_
   simp only[pS]
   refine aB rfl (.slice (some ⟨g,0,none⟩) n cap) (fun w'=>by kernel_rfl) ?_
   simp only[pS]
   refine aB rfl (.int .i64 (k:Int)) (fun w'=>by kernel_rfl) ?_
   simp only[pS]
   refine rM rfl _ _ rfl g 0 n cap k rfl rfl hlt ?_
   simp only[pS]
   refine wqLm rfl 22 _ rfl g (0+k*32) rfl (fK (iO L k)) _ (fun w' hw'=>by obtain⟨x,rfl⟩:=hw';exact(Sl.later (Sl.later HS.out HB.out HS.out.1) x.bel (Sl.later HS.out HB.out HS.out.1).1).key HL.out hlt) underlying22 rfl (sA HL.out hlt) ?_
   simp only[pS]
   refine IC rfl _ _ _ rfl key (iO L k) rfl rfl HK.out (pT HL.out hlt) ?_
   simp only[pS]
   refine wqN ?_
   intro w1 hw1
   have HB1:Hid _:=hw1
   clear hw1 HBR
   by_cases he:key=iO L k
   ·have hd:=decide_eq_true he
    have HF:Hid _:=EL hlt he.symm HBJ.out
    rw[hd]
    clear hd he HBJ
    go_wp2_with fail
    exact bodyPost_ret (v:=.int .i64 (k:Int)) (by kernel_rfl) rfl ⟨by rw[HF.out];rfl,HB.out.trans (HB1.out.mono HB.out.size)⟩
   ·have hd:=decide_eq_false he
    rw[hd]
    clear hd
    have HE:Hid (iO L k≠key):=fun h=>he h.symm
    clear he
    go_wp2_with fail
    go_roundw
    case rel=>first|exact⟨k+1,by omega,by go_num,fun j hj=>if h:j=k then h▸HE.out else HBJ.out j (by omega),HB1.out⟩|exact⟨_,_,_,_,_,_,_,_,_,_,⟨k+1,by omega,by go_num,fun j hj=>if h:j=k then h▸HE.out else HBJ.out j (by omega),HB1.out⟩,rfl⟩
    case measure=>simp[intOf];omega
  ·have hkn:k=n:=by omega
   subst hkn
   have HF:Hid _:=EJ hb
   have HBR:Hid _:=hbr
   clear hbr hb
   go_wp2_with fail
   exact bodyPost_ret (v:=.int .i64 (-1)) (by kernel_rfl) rfl ⟨by rw[HF.out];rfl,HB.out.trans (HBR.out.mono HB.out.size)⟩
def kN (k who:Int) (st c h:List Int) (m:Int):List Value:=[.int .i64 k]++([.int .i64 who]++(fK st++(fK c++(fK h++[.int .i64 m]))))
theorem KH (k who:Int) (st c h:List Int) (m:Int) (hs:st.length=12) (hc:c.length=32) (hh:h.length=32):(kN k who st c h m).length=79:=by simp[kN,hs,hc,hh]
abbrev fN (k m:Int):List Value:=kN k 0 (aA 12) (aA 32) (aA 32) m
theorem bCo (ps:List (Nat×Value)):prog.built 41 ps=Instr.fill (fun i=>#[(0,1),(1,1),(2,12),(14,32),(46,32),(78,1)][i]?) (fN 0 0).toArray ps:=by kernel_rfl
theorem rP (k m:Int):prog.built 41 [(0,.int .i64 k),(5,.int .i64 m)]=some (fN k m).toArray:=by kernel_rfl
theorem ND {α:Type} (A B D E F p q C:List α) (i:Nat) (hA:A.length+B.length+D.length+E.length+F.length=i) (hp:p.length=q.length):(A++(B++(D++(E++(F++(p++C)))))).take i++q++(A++(B++(D++(E++(F++(p++C)))))).drop (i+q.length)=A++(B++(D++(E++(F++(q++C))))):=by
 have:=pB (A++(B++(D++(E++F)))) p q C i (by simp only[lQ];omega) hp
 simpa only[List.append_assoc]using this
theorem WW (k who:Int) (st c h:List Int) (m:Int) (hs:st.length=12) (hc:c.length=32) (hh:h.length=32):prog.built 41 [(0,.int .i64 k),(1,.int .i64 who),(2,.agg (Iv .u8 st)),(3,.agg (Iv .u8 c)),(4,.agg (Iv .u8 h)),(5,.int .i64 m)]=some (kN k who st c h m).toArray:=by
 refine(bCo _).trans ?_
 refine(dX _ 0 0 1 _ [.int .i64 k] rfl rfl rfl (by simp[aA]) _ (zC [Value.int .i64 0] _ ([Value.int .i64 0]++(fK (aA 12)++(fK (aA 32)++(fK (aA 32)++[Value.int .i64 0])))) rfl) _).trans ?_
 refine(dX _ 1 1 1 _ [.int .i64 who] rfl rfl rfl (by simp) _ (pB [Value.int .i64 k] [Value.int .i64 0] _ _ _ rfl rfl) _).trans ?_
 refine(dX _ 2 2 12 _ (fK st) rfl rfl (by rw[aU,hs]) (by simp[aA]) _ (FA [Value.int .i64 k] [Value.int .i64 who] (fK (aA 12)) _ _ _ rfl (by rw[aU,aU,hs];rfl)) _).trans ?_
 refine(dX _ 3 14 32 _ (fK c) rfl rfl (by rw[aU,hc]) (by simp[hs,aA]) _ (FB [Value.int .i64 k] [Value.int .i64 who] (fK st) (fK (aA 32)) _ _ _ (by rw[aU st,hs];rfl) (by rw[aU,aU,hc];rfl)) _).trans ?_
 refine(dX _ 4 46 32 _ (fK h) rfl rfl (by rw[aU,hh]) (by simp[hs,hc,aA]) _ (NA [Value.int .i64 k] [Value.int .i64 who] (fK st) (fK c) (fK (aA 32)) _ _ _ (by rw[aU st,aU c,hs,hc];rfl) (by rw[aU,aU,hh];rfl)) _).trans ?_
 refine(dX _ 5 78 1 _ [.int .i64 m] rfl rfl rfl (by simp[hs,hc,hh]) _ (ND [Value.int .i64 k] [Value.int .i64 who] (fK st) (fK c) (fK h) [Value.int .i64 0] _ [] _ (by rw[aU st,aU c,aU h,hs,hc,hh];rfl) rfl) _).trans ?_
 rfl
theorem L4 (k who:Int) (c h:List Int) (m:Int) (hc:c.length=32) (hh:h.length=32):prog.built 41 [(0,.int .i64 k),(1,.int .i64 who),(3,.agg (Iv .u8 c)),(4,.agg (Iv .u8 h)),(5,.int .i64 m)]=some (kN k who (aA 12) c h m).toArray:=by
 refine(bCo _).trans ?_
 refine(dX _ 0 0 1 _ [.int .i64 k] rfl rfl rfl (by simp[aA]) _ (zC [Value.int .i64 0] _ ([Value.int .i64 0]++(fK (aA 12)++(fK (aA 32)++(fK (aA 32)++[Value.int .i64 0])))) rfl) _).trans ?_
 refine(dX _ 1 1 1 _ [.int .i64 who] rfl rfl rfl (by simp) _ (pB [Value.int .i64 k] [Value.int .i64 0] _ _ _ rfl rfl) _).trans ?_
 refine(dX _ 3 14 32 _ (fK c) rfl rfl (by rw[aU,hc]) (by simp[aA]) _ (FB [Value.int .i64 k] [Value.int .i64 who] (fK (aA 12)) (fK (aA 32)) _ _ _ rfl (by rw[aU,aU,hc];rfl)) _).trans ?_
 refine(dX _ 4 46 32 _ (fK h) rfl rfl (by rw[aU,hh]) (by simp[hc,aA]) _ (NA [Value.int .i64 k] [Value.int .i64 who] (fK (aA 12)) (fK c) (fK (aA 32)) _ _ _ (by rw[aU c,hc];rfl) (by rw[aU,aU,hh];rfl)) _).trans ?_
 refine(dX _ 5 78 1 _ [.int .i64 m] rfl rfl rfl (by simp[hc,hh,aA]) _ (ND [Value.int .i64 k] [Value.int .i64 who] (fK (aA 12)) (fK c) (fK h) [Value.int .i64 0] _ [] _ (by rw[aU c,aU h,hc,hh];rfl) rfl) _).trans ?_
 rfl
theorem ad6 (ps:List (Nat×Value)):prog.built 91 ps=Instr.fill (fun i=>#[(0,64),(64,1),(65,32)][i]?) (fK (aA 64)++([Value.int .i64 0]++(fK (aA 32)++[]))).toArray ps:=by kernel_rfl
theorem IJ (c h g:List Int) (m:Int) (hc:c.length=32) (hh:h.length=32) (hg:g.length=32):prog.built 91 [(0,.agg (fA c h []).toArray),(1,.agg #[Value.int .i64 m]),(2,.agg (Iv .u8 g))]=some (fA c h (.int .i64 m::fK g)).toArray:=by
 have hl:(fA c h []).length=64:=jU c h [] hc hh
 refine(ad6 _).trans ?_
 refine(dX _ 0 0 64 _ (fA c h []) rfl rfl hl (by decide) _ (zC (fK (aA 64)) _ _ (by rw[aU,hl];rfl)) _).trans ?_
 refine(dX _ 1 64 1 _ [Value.int .i64 m] rfl rfl rfl (by simp[hl,aA]) _ (pB (fA c h []) [Value.int .i64 0] _ _ 64 hl rfl) _).trans ?_
 refine(dX _ 2 65 32 _ (fK g) rfl rfl (by rw[aU,hg]) (by simp[hl,aA]) _ (FA (fA c h []) [Value.int .i64 m] (fK (aA 32)) _ _ 65 (by rw[hl];rfl) (by rw[aU,aU,hg];rfl)) _).trans ?_
 simp[fA,Instr.fill]
set_option maxRecDepth 10000 in
structure kT (c h l z:List Int) (m:Int) (e X Y C1 H1 p1 k1 C2 H2 s p2 k2 C3 H3 st:List Int) (m1 m2:Int):Prop where
 lc:c.length=32
 lh:h.length=32
 ll:l.length=32
 lz:z.length=140
 bc:aE c
 bh:aE h
 bl:aE l
 bz:aE z
 ee:cI z 0 32=e
 eX:cI z 32 48=X
 eY:cI z 80 28=Y
 eC1:fB (gF c e) 0=C1
 eH1:dM (h++e)=H1
 ep1:DH l e=p1
 ek1:ZJ C1 p1=k1
 eC2:sfC C1 p1=C2
 eH2:dM (H1++X)=H2
 es:ZH k1 X 32=s
 ep2:DH l s=p2
 ek2:ZJ C2 p2=k2
 eC3:sfC C2 p2=C3
 eH3:dM (H2++Y)=H3
 est:ZH k2 Y 12=st
 em1:IntKind.i64.wrap (m+1)=m1
 em2:IntKind.i64.wrap (m1+1)=m2
theorem uR {z:List Int} (h:aE z) (o n:Nat):aE (cI z o n):=dB (cE h o) n
section
variable {c h l z:List Int} {m:Int} {e X Y C1 H1 p1 k1 C2 H2 s p2 k2 C3 H3 st:List Int} {m1 m2:Int}
theorem kT.le (K:kT c h l z m e X Y C1 H1 p1 k1 C2 H2 s p2 k2 C3 H3 st m1 m2):e.length=32:=by rw[←K.ee];exact bP z 0 32 140 K.lz (by decide)
theorem kT.be (K:kT c h l z m e X Y C1 H1 p1 k1 C2 H2 s p2 k2 C3 H3 st m1 m2):aE e:=by rw[←K.ee];exact uR K.bz _ _
theorem kT.lX (K:kT c h l z m e X Y C1 H1 p1 k1 C2 H2 s p2 k2 C3 H3 st m1 m2):X.length=48:=by rw[←K.eX];exact bP z 32 48 140 K.lz (by decide)
theorem kT.bX (K:kT c h l z m e X Y C1 H1 p1 k1 C2 H2 s p2 k2 C3 H3 st m1 m2):aE X:=by rw[←K.eX];exact uR K.bz _ _
theorem kT.lY (K:kT c h l z m e X Y C1 H1 p1 k1 C2 H2 s p2 k2 C3 H3 st m1 m2):Y.length=28:=by rw[←K.eY];exact bP z 80 28 140 K.lz (by decide)
theorem kT.bY (K:kT c h l z m e X Y C1 H1 p1 k1 C2 H2 s p2 k2 C3 H3 st m1 m2):aE Y:=by rw[←K.eY];exact uR K.bz _ _
theorem kT.lC1 (K:kT c h l z m e X Y C1 H1 p1 k1 C2 H2 s p2 k2 C3 H3 st m1 m2):C1.length=32:=by rw[←K.eC1];exact bA _ _
theorem kT.bC1 (K:kT c h l z m e X Y C1 H1 p1 k1 C2 H2 s p2 k2 C3 H3 st m1 m2):aE C1:=by rw[←K.eC1];exact k7 _ _
theorem kT.lH1 (K:kT c h l z m e X Y C1 H1 p1 k1 C2 H2 s p2 k2 C3 H3 st m1 m2):H1.length=32:=by rw[←K.eH1];exact bV _
theorem kT.bH1 (K:kT c h l z m e X Y C1 H1 p1 k1 C2 H2 s p2 k2 C3 H3 st m1 m2):aE H1:=by rw[←K.eH1];exact dK _
theorem kT.lH2 (K:kT c h l z m e X Y C1 H1 p1 k1 C2 H2 s p2 k2 C3 H3 st m1 m2):H2.length=32:=by rw[←K.eH2];exact bV _
theorem kT.bH2 (K:kT c h l z m e X Y C1 H1 p1 k1 C2 H2 s p2 k2 C3 H3 st m1 m2):aE H2:=by rw[←K.eH2];exact dK _
theorem kT.lH3 (K:kT c h l z m e X Y C1 H1 p1 k1 C2 H2 s p2 k2 C3 H3 st m1 m2):H3.length=32:=by rw[←K.eH3];exact bV _
theorem kT.lp1 (K:kT c h l z m e X Y C1 H1 p1 k1 C2 H2 s p2 k2 C3 H3 st m1 m2):p1.length=32:=by rw[←K.ep1];exact nC _ _
theorem kT.bp1 (K:kT c h l z m e X Y C1 H1 p1 k1 C2 H2 s p2 k2 C3 H3 st m1 m2):aE p1:=by rw[←K.ep1];exact YU _ _
theorem kT.lp2 (K:kT c h l z m e X Y C1 H1 p1 k1 C2 H2 s p2 k2 C3 H3 st m1 m2):p2.length=32:=by rw[←K.ep2];exact nC _ _
theorem kT.bp2 (K:kT c h l z m e X Y C1 H1 p1 k1 C2 H2 s p2 k2 C3 H3 st m1 m2):aE p2:=by rw[←K.ep2];exact YU _ _
theorem kT.lk1 (K:kT c h l z m e X Y C1 H1 p1 k1 C2 H2 s p2 k2 C3 H3 st m1 m2):k1.length=32:=by rw[←K.ek1];exact bA _ _
theorem kT.bk1 (K:kT c h l z m e X Y C1 H1 p1 k1 C2 H2 s p2 k2 C3 H3 st m1 m2):aE k1:=by rw[←K.ek1];exact k7 _ _
theorem kT.lk2 (K:kT c h l z m e X Y C1 H1 p1 k1 C2 H2 s p2 k2 C3 H3 st m1 m2):k2.length=32:=by rw[←K.ek2];exact bA _ _
theorem kT.bk2 (K:kT c h l z m e X Y C1 H1 p1 k1 C2 H2 s p2 k2 C3 H3 st m1 m2):aE k2:=by rw[←K.ek2];exact k7 _ _
theorem kT.lC2 (K:kT c h l z m e X Y C1 H1 p1 k1 C2 H2 s p2 k2 C3 H3 st m1 m2):C2.length=32:=by rw[←K.eC2];exact bA _ _
theorem kT.bC2 (K:kT c h l z m e X Y C1 H1 p1 k1 C2 H2 s p2 k2 C3 H3 st m1 m2):aE C2:=by rw[←K.eC2];exact k7 _ _
theorem kT.lC3 (K:kT c h l z m e X Y C1 H1 p1 k1 C2 H2 s p2 k2 C3 H3 st m1 m2):C3.length=32:=by rw[←K.eC3];exact bA _ _
theorem kT.ls (K:kT c h l z m e X Y C1 H1 p1 k1 C2 H2 s p2 k2 C3 H3 st m1 m2):s.length=32:=by rw[←K.es];exact DG _ _ _
theorem kT.bs (K:kT c h l z m e X Y C1 H1 p1 k1 C2 H2 s p2 k2 C3 H3 st m1 m2):aE s:=by rw[←K.es];exact abQ _ _ _
theorem kT.lst (K:kT c h l z m e X Y C1 H1 p1 k1 C2 H2 s p2 k2 C3 H3 st m1 m2):st.length=12:=by rw[←K.est];exact DG _ _ _
theorem kT.bst (K:kT c h l z m e X Y C1 H1 p1 k1 C2 H2 s p2 k2 C3 H3 st m1 m2):aE st:=by rw[←K.est];exact abQ _ _ _
end
def qU (H1 X H2 Y p1 k1 s p2 k2 C3 H3 st L:List Int) (n:Nat) (m1 m2:Int):List Value:=
 if p1=aA 32 then fN 29 m1
 else if OA (blk k1 zn) H1 (X.take 32)=X.drop 32 then
  match pQ L s n with
  | none=>fN 10 m1
  | some k=>if p2=aA 32 then fN 29 m2 else if OA (blk k2 zn) H2 (Y.take 12)=Y.drop 12 then kN 30 ((k:Int)+1) st C3 H3 m2 else fN 11 m2
 else fN 9 m1
section
variable {H1 X H2 Y p1 k1 s p2 k2 C3 H3 st L:List Int} {n k:Nat} {m1 m2:Int}
theorem Q8 (h1:p1=aA 32):qU H1 X H2 Y p1 k1 s p2 k2 C3 H3 st L n m1 m2=fN 29 m1:=if_pos h1
theorem Q9 (h1:p1≠aA 32) (h2:¬NK k1 H1 X 32):qU H1 X H2 Y p1 k1 s p2 k2 C3 H3 st L n m1 m2=fN 9 m1:=(if_neg h1).trans (if_neg h2)
theorem RA (h1:p1≠aA 32) (h2:NK k1 H1 X 32) (h3:pQ L s n=none):qU H1 X H2 Y p1 k1 s p2 k2 C3 H3 st L n m1 m2=fN 10 m1:=(if_neg h1).trans ((if_pos h2).trans (by rw[h3]))
theorem RD (h1:p1≠aA 32) (h2:NK k1 H1 X 32) (h3:pQ L s n=some k) (h4:p2=aA 32):qU H1 X H2 Y p1 k1 s p2 k2 C3 H3 st L n m1 m2=fN 29 m2:=(if_neg h1).trans ((if_pos h2).trans (by rw[h3];exact if_pos h4))
theorem RE (h1:p1≠aA 32) (h2:NK k1 H1 X 32) (h3:pQ L s n=some k) (h4:p2≠aA 32) (h5:¬NK k2 H2 Y 12):qU H1 X H2 Y p1 k1 s p2 k2 C3 H3 st L n m1 m2=fN 11 m2:=(if_neg h1).trans ((if_pos h2).trans (by rw[h3];exact(if_neg h4).trans (if_neg h5)))
theorem RF (h1:p1≠aA 32) (h2:NK k1 H1 X 32) (h3:pQ L s n=some k) (h4:p2≠aA 32) (h5:NK k2 H2 Y 12):qU H1 X H2 Y p1 k1 s p2 k2 C3 H3 st L n m1 m2=kN 30 ((k:Int)+1) st C3 H3 m2:=(if_neg h1).trans ((if_pos h2).trans (by rw[h3];exact(if_neg h4).trans (if_pos h5)))
end
theorem lH {P:Program} {fn:Func} {p u v:Tmp} {ty:TypeId} (h:fn.results=#[.tmp u,.cell p ty,.tmp v]) (tmps:Array Value) (w:World) (g:Nat) (t:TypeId) (cs:Array Value) (d:TypeDesc) (a b:Value)
 (hu:tmps.getD u undef=a) (hp:tmps.getD p undef=.pointer (some ⟨g,0,none⟩)) (hv:tmps.getD v undef=b) (hg:w.heap[g]? =some (.cells cs t))
 (hd:P.underlying ty=some d) (hr:(match d with| .struct _| .array _ _=>true|_=>false)=true) (hi:(P.info? ty).map (·.size)=some cs.size):
 (results fn tmps).run P w=.ok (.tuple #[a,.agg cs,b]) w:=by
 have hu':tmps[u]?.getD undef=a:=by simpa using hu
 have hp':tmps[p]?.getD undef=.pointer (some ⟨g,0,none⟩):=by simpa using hp
 have hv':tmps[v]?.getD undef=b:=by simpa using hv
 simp[results,h,hu',hp',hv',asAddr,run_loadVar_row w g t ty cs _ d hg hd hr hi]
theorem yM:prog.built 24 []=some (Iv .u8 (aA 12)):=by kernel_rfl
theorem afT {l:List Int} (h:l.length=12):(Iv .u8 (aA 12)).size=(Iv .u8 l).size:=by rw[aD,aD,h];rfl
set_option maxRecDepth 10000 in
set_option maxHeartbeats 4000000 in
theorem VU {c h l z:List Int} {m:Int} {e X Y C1 H1 p1 k1 C2 H2 s p2 k2 C3 H3 st:List Int} {m1 m2:Int} (K:kT c h l z m e X Y C1 H1 p1 k1 C2 H2 s p2 k2 C3 H3 st m1 m2) (r:Int) (L:List Int) (n:Nat) (hL:L.length=n*32) (hn:n≤1048576) (kg kc b:Nat) (hb3:3<b) (t:TypeId) (w:World) (hr:w.heap[b]? =some (.cells (fA c h (.int .i64 m::l.map (Value.int .u8))).toArray t)) (ht:dR w) (hS:Sl w kg 0 L) (hne:kg≠b):
 Calls prog 43 #[.pointer (some ⟨b,0,none⟩),.agg (WL r z).toArray,.slice (some ⟨kg,0,none⟩) n kc] w fun x w'=>
  (∃s' code mm cc hh,x=.returned (.tuple #[.int .i64 0,.agg (Iv .u8 (aA 12)),FJ s' code])∧code≠30∧cc.length=32∧hh.length=32∧qU H1 X H2 Y p1 k1 s p2 k2 C3 H3 st L n m1 m2=fN code mm∧Tn w b (fA cc hh (.int .i64 mm::l.map (Value.int .u8))) t w')∨
  (∃k:Nat,k<n∧x=.returned (.tuple #[.int .i64 k,.agg (Iv .u8 st),.nilIface])∧qU H1 X H2 Y p1 k1 s p2 k2 C3 H3 st L n m1 m2=kN 30 ((k:Int)+1) st C3 H3 m2∧Tn w b (fA C3 H3 (.int .i64 m2::l.map (Value.int .u8))) t w'):=by
 have CM:Hid (∀(W:World) (hr:W.heap[b]? =some (.cells (fA c h (.int .i64 m::l.map (Value.int .u8))).toArray t)) (ht:dR W),_):=fun W hr ht=>AB c h e (.int .i64 m::l.map (Value.int .u8)) K.lc K.lh K.le K.bc K.bh K.be b hb3 t W hr ht
 have CS:Hid (∀(W:World) (g:Nat) (hr:W.heap[b]? =some (.cells (fA C1 H1 (.int .i64 m::l.map (Value.int .u8))).toArray t)) (ht:dR W) (hS:Sl W g 33 X) (hne:g≠b),_):=fun W g hr ht hS hne=>zF C1 H1 l e X m 9 K.lC1 K.lH1 K.ll K.le K.bC1 K.bH1 K.bl K.be K.bX 32 K.lX (by decide) (by decide) g 33 48 (by decide) (by decide) b hb3 t W hr ht hS hne
 have CT:Hid (∀(W:World) (g:Nat) (hr:W.heap[b]? =some (.cells (fA C2 H2 (.int .i64 m1::l.map (Value.int .u8))).toArray t)) (ht:dR W) (hS:Sl W g 81 Y) (hne:g≠b),_):=fun W g hr ht hS hne=>zF C2 H2 l s Y m1 11 K.lC2 K.lH2 K.ll K.ls K.bC2 K.bH2 K.bl K.bs K.bY 12 K.lY (by decide) (by decide) g 81 28 (by decide) (by decide) b hb3 t W hr ht hS hne
 have CI:Hid (∀(W:World) (hS:Sl W kg 0 L),_):=fun W hS=>T7 L s n hL K.ls hn kg kc W hS
 rw[K.eC1,K.eH1]at CM
 rw[K.ep1,K.ek1,K.eC2,K.eH2,K.es,K.em1]at CS
 rw[K.ep2,K.ek2,K.eC3,K.eH3,K.est,K.em2]at CT
 have hK:Hid (kT c h l z m e X Y C1 H1 p1 k1 C2 H2 s p2 k2 C3 H3 st m1 m2):=K
 have HT:Hid (dR w):=ht
 have S0:Hid _:=Sx.start hr
 have HS:Hid (Sl w kg 0 L∧kg≠b):=⟨hS,hne⟩
 have HLN:Hid (n≤1048576):=hn
 clear K ht hr hS hne hL hn
 obtain⟨G',eG⟩:∃x,l.map (Value.int .u8)=x:=⟨_,rfl⟩
 rw[eG]at CM CS CT S0⊢
 clear eG
 have hz:∀W,(zeroValue 24).run prog W=.ok (.agg (Iv .u8 (aA 12))) W:=(zero_of_info (n:=12) (by kernel_rfl)).1
 have hz32:=fT
 go_enter func43,ntmps43
 go_wp2_with fail
 obtain⟨n0,e0⟩:∃n,w.heap.size=n:=⟨_,rfl⟩
 have S1:=(S0.out.alloc n0 e0 (WL r z).toArray 29).alloc (n0+1) (by simp[e0]) (Iv .u8 (aA 12)) 24
 rw[e0]
 obtain⟨W,hW⟩:∃W,(w.alloc (.cells (WL r z).toArray 29)).alloc (.cells (Iv .u8 (aA 12)) 24)=W:=⟨_,rfl⟩
 rw[hW]at S1⊢
 have S:Hid _:=S1.drew
 have hnb:Hid (b<n0):=by show _<_;rw[←e0];exact S0.out.lb
 clear hW S1 S0 e0
 refine wRt 5 (fun w'=>∃x:Wp (fun v=>Sx w b (fA c h (.int .i64 m::G')) t [WG (n0+1) (aA 12),uA n0 r z] v),w'=x.w) (.held [0,1,2,3,4] (.last 5 .done)) fH (by kernel_rfl) ⟨⟨_,S.out⟩,rfl⟩ ?_
 obtain⟨y0,ey⟩:∃y,y=W.drew:=⟨_,rfl⟩
 rw[←ey]at S⊢
 clear ey
 refine wTh ?_
 simp only[oS]
 refine aB rfl (.pointer (some ⟨b,0,none⟩)) (fun w'=>by kernel_rfl) ?_
 simp only[pS]
 refine aB rfl (.pointer (some ⟨b,0,none⟩)) (fun w'=>by kernel_rfl) ?_
 simp only[pS]
 refine aB rfl (.pointer (some ⟨b,0,none⟩)) (fun w'=>by kernel_rfl) ?_
 simp only[pS]
 refine aB rfl (.pointer (some ⟨n0,1,none⟩)) (fun w'=>by kernel_rfl) ?_
 simp only[pS]
 refine wqLm rfl 22 _ rfl n0 1 rfl (fK e) _ (fun w' hw'=>by obtain⟨⟨x,hx⟩,rfl⟩:=hw';rw[←hK.out.ee];exact gG (hx.at (.tail _ (.head _))) 0 32) underlying22 rfl (eM hK.out.le) ?_
 simp only[pS]
 refine wqN ?_
 refine wTl ?_
 simp only[oS]
 go_wp2_with fail
 refine(CM.out _ S.out.here (S.out.tabs HT.out hb3)).mono ?_
 rintro x y3 ⟨rfl,hT⟩
 have S2:Hid _:=S.out.turn hT
 clear hT S CM
 go_wp2_with fail
 refine bE ?_
 go_wp2_with fail
 have S:Hid _:=S2.out.drew
 clear S2
 refine wRt 10 (fun w'=>∃x:Wp (fun v=>∃cs,Sx w b cs t [WG (n0+1) (aA 12),uA n0 r z] v),w'=x.w) (.held [0,1,2,3,4] (.tail 5 (.held [6,7,8] (.tail 9 (.last 10 .done))))) fH (by kernel_rfl) ⟨⟨_,_,S.out⟩,rfl⟩ ?_
 obtain⟨y4,ey⟩:∃y,y=y3.drew:=⟨_,rfl⟩
 rw[←ey]at S⊢
 clear ey
 refine wTh ?_
 simp only[oS]
 refine aB rfl (.pointer (some ⟨b,0,none⟩)) (fun w'=>by kernel_rfl) ?_
 simp only[pS]
 refine aB rfl (.pointer (some ⟨n0,1,none⟩)) (fun w'=>by kernel_rfl) ?_
 simp only[pS]
 refine wqLm rfl 22 _ rfl n0 1 rfl (fK e) _ (fun w' hw'=>by obtain⟨⟨x,m',hx⟩,rfl⟩:=hw';rw[←hK.out.ee];exact gG (hx.at (.tail _ (.head _))) 0 32) underlying22 rfl (eM hK.out.le) ?_
 simp only[pS]
 refine aB rfl (.pointer (some ⟨n0,33,none⟩)) (fun w'=>by kernel_rfl) ?_
 simp only[pS]
 refine aB rfl (.slice (some ⟨n0,33,none⟩) (32+16) 48) (fun w'=>by kernel_rfl) ?_
 simp only[pS]
 refine wqN ?_
 refine wTt ?_
 simp only[oS]
 go_wp2_with fail
 refine(CS.out _ n0 S.out.here (S.out.tabs HT.out hb3) (by have q:=gG (S.out.at (.tail _ (.head _))) 32 48;rw[hK.out.eX]at q;exact Sl.of_range (Array.getElem?_eq_some_iff.1 (S.out.at (.tail _ (.head _)))).1 q) (by have:=hnb.out;omega)).mono ?_
 rintro x y5 (⟨hE,rfl,hT⟩|⟨hE,hO,rfl,hT⟩|⟨hE,hO,g5,cap5,rfl,hg1,hg2,hg3,hS5,hT⟩)
 ·have S2:Hid _:=S.out.turn hT
  have HE:Hid _:=hE
  clear hT S hE CS CT CI
  go_wp2_with fail
  refine⟨⟨⟨_,_,S2.out⟩,rfl⟩,?_⟩
  refine wTh ?_
  simp only[oS]
  refine aB rfl (.tuple #[.slice none 0 0,oG 29]) (fun w'=>by kernel_rfl) ?_
  simp only[pS]
  refine aB rfl (.slice none 0 0) (fun w'=>by kernel_rfl) ?_
  simp only[pS]
  refine aB rfl (oG 29) (fun w'=>by kernel_rfl) ?_
  simp only[pS]
  refine wqN ?_
  refine wTt ?_
  simp only[oS]
  go_wp2_with fail
  refine⟨⟨⟨_,_,S2.out⟩,rfl⟩,?_⟩
  refine wTl ?_
  simp only[oS]
  go_wp2_with fail
  refine bE ?_
  have hb12:Hid _:=yM
  go_wp2_with(first
   | refine aV rfl 24 _ rfl (Iv .u8 (aA 12)) _ (by kernel_rfl) hb12.out ?_
   | refine wpPr rfl 24 _ _ rfl (n0+1) (Iv .u8 (aA 12)) rfl rfl _ _ (S2.out.at (.head _)) (iX rfl) rfl (aG _ _) ?_)
  intro y6 hP
  have S3:Hid _:=Sx.putK (R1:=[]) S2.out hP
  clear hP S2
  go_wp2_with fail
  exact bodyPost_ret (v:=.tuple #[.int .i64 0,.agg (Iv .u8 (aA 12)),FJ YR 29]) (lH rfl _ _ _ _ (Iv .u8 (aA 12)) _ _ _ rfl rfl rfl (S3.out.at (.head _)) underlying24 rfl (iX rfl)) rfl (.inl ⟨_,_,m1,C1,H1,rfl,by decide,hK.out.lC1,hK.out.lH1,Q8 HE.out,S3.out.tn⟩)
 ·have S2:Hid _:=S.out.turn hT
  have HE:Hid _:=hE
  have HO:Hid _:=hO
  clear hT S hE hO CS CT CI
  go_wp2_with fail
  refine⟨⟨⟨_,_,S2.out⟩,rfl⟩,?_⟩
  refine wTh ?_
  simp only[oS]
  refine aB rfl (.tuple #[.slice none 0 0,oG 9]) (fun w'=>by kernel_rfl) ?_
  simp only[pS]
  refine aB rfl (.slice none 0 0) (fun w'=>by kernel_rfl) ?_
  simp only[pS]
  refine aB rfl (oG 9) (fun w'=>by kernel_rfl) ?_
  simp only[pS]
  refine wqN ?_
  refine wTt ?_
  simp only[oS]
  go_wp2_with fail
  refine⟨⟨⟨_,_,S2.out⟩,rfl⟩,?_⟩
  refine wTl ?_
  simp only[oS]
  go_wp2_with fail
  refine bE ?_
  have hb12:Hid _:=yM
  go_wp2_with(first
   | refine aV rfl 24 _ rfl (Iv .u8 (aA 12)) _ (by kernel_rfl) hb12.out ?_
   | refine wpPr rfl 24 _ _ rfl (n0+1) (Iv .u8 (aA 12)) rfl rfl _ _ (S2.out.at (.head _)) (iX rfl) rfl (aG _ _) ?_)
  intro y6 hP
  have S3:Hid _:=Sx.putK (R1:=[]) S2.out hP
  clear hP S2
  go_wp2_with fail
  exact bodyPost_ret (v:=.tuple #[.int .i64 0,.agg (Iv .u8 (aA 12)),FJ YR 9]) (lH rfl _ _ _ _ (Iv .u8 (aA 12)) _ _ _ rfl rfl rfl (S3.out.at (.head _)) underlying24 rfl (iX rfl)) rfl (.inl ⟨_,_,m1,C2,H1,rfl,by decide,hK.out.lC2,hK.out.lH1,Q9 HE.out HO.out,S3.out.tn⟩)
 ·have S2:Hid _:=S.out.turn hT
  have HE:Hid _:=hE
  have HO:Hid _:=hO
  have X0:Hid (Sl y5 g5 0 s):=hS5
  clear hT S hE hO hg1 hg2 hg3 hS5 CS
  go_wp2_with fail
  refine⟨⟨⟨_,_,S2.out⟩,rfl⟩,?_⟩
  refine wTh ?_
  simp only[oS]
  refine aB rfl (.tuple #[.slice (some ⟨g5,0,none⟩) 32 cap5,.nilIface]) (fun w'=>by kernel_rfl) ?_
  simp only[pS]
  refine aB rfl (.slice (some ⟨g5,0,none⟩) 32 cap5) (fun w'=>by kernel_rfl) ?_
  simp only[pS]
  refine aB rfl (.nilIface) (fun w'=>by kernel_rfl) ?_
  simp only[pS]
  refine wqN ?_
  refine wTt ?_
  simp only[oS]
  go_wp2_with fail
  refine⟨⟨⟨_,_,S2.out⟩,rfl⟩,?_⟩
  refine wTl ?_
  simp only[oS]
  go_wp2_with fail
  refine bE ?_
  have hA:∀W,(Instr.arrayAt 22 (.slice (some ⟨g5,0,none⟩) 32 cap5)).run prog W=.ok (.pointer (some ⟨g5,0,none⟩)) W:=fun W=>by kernel_rfl
  obtain⟨g11,e11⟩:∃n,y5.heap.size=n:=⟨_,rfl⟩
  have S4:Hid _:=S2.out.alloc g11 e11 (Iv .u8 (aA 32)) 22
  go_wp2_with(first
   | refine wpList_load_mid rfl 22 _ rfl g5 0 rfl (fK s) _ X0.out.range underlying22 rfl (eM hK.out.ls) ?_
   | refine wpPr rfl 22 _ _ rfl g11 (Iv .u8 s) rfl rfl _ _ (S4.out.at (.head _)) (aS hK.out.ls) (vK hK.out.ls) (aG _ _) ?_)
  intro y6 hP
  have S5:Hid _:=S4.out.put0 hP
  clear hP S4 S2 X0 e11 hA
  go_wp2_with(refine wpLr rfl 22 _ rfl g11 rfl _ (Iv .u8 s) _ _ (S5.out.at (.head _)) underlying22 rfl (aS hK.out.ls) ?_)
  refine(CI.out _ (S5.out.sl HS.out.1 HS.out.2)).mono ?_
  rintro x y7 ⟨rfl,hb7⟩
  have S2:Hid _:=S5.out.later hb7
  clear hb7 S5 CI
  rcases hf:pQ L s n with _|k
  ·have HF:Hid _:=hf
   clear hf CT
   simp only[acO]
   have hb12:Hid _:=yM
   go_wp2_with(first
    | refine aV rfl 24 _ rfl (Iv .u8 (aA 12)) _ (by kernel_rfl) hb12.out ?_
    | refine wpPr rfl 24 _ _ rfl (n0+1) (Iv .u8 (aA 12)) rfl rfl _ _ (S2.out.at (.tail _ (.head _))) (iX rfl) rfl (aG _ _) ?_)
   intro y6 hP
   have S3:Hid _:=Sx.putK (R1:=[bB g11 s]) S2.out hP
   clear hP S2
   go_wp2_with fail
   exact bodyPost_ret (v:=.tuple #[.int .i64 0,.agg (Iv .u8 (aA 12)),FJ YR 10]) (lH rfl _ _ _ _ (Iv .u8 (aA 12)) _ _ _ rfl rfl rfl (S3.out.at (.tail _ (.head _))) underlying24 rfl (iX rfl)) rfl (.inl ⟨_,_,m1,C2,H2,rfl,by decide,hK.out.lC2,hK.out.lH2,RA HE.out HO.out HF.out,S3.out.tn⟩)
  ·have HF:Hid _:=hf
   have hkn:k<n:=(MV hf).1
   clear hf
   simp only[acO]
   go_wp2_with fail
   have S:Hid _:=S2.out.drew
   clear S2
   refine wRt 9 (fun w'=>∃x:Wp (fun v=>∃cs,Sx w b cs t [bB g11 s,WG (n0+1) (aA 12),uA n0 r z] v),w'=x.w) (.held [0,1,2,3] (.tail 4 (.held [5,6,7] (.tail 8 (.last 9 .done))))) fH (by kernel_rfl) ⟨⟨_,_,S.out⟩,rfl⟩ ?_
   obtain⟨y8,ey⟩:∃y,y=y7.drew:=⟨_,rfl⟩
   rw[←ey]at S⊢
   clear ey
   refine wTh ?_
   simp only[oS]
   refine aB rfl (.pointer (some ⟨b,0,none⟩)) (fun w'=>by kernel_rfl) ?_
   simp only[pS]
   refine wqLr rfl 22 _ rfl g11 rfl _ (Iv .u8 s) _ _ (fun w' hw'=>by obtain⟨⟨x,m',hx⟩,rfl⟩:=hw';exact hx.at (.head _)) underlying22 rfl (aS hK.out.ls) ?_
   simp only[pS]
   refine aB rfl (.pointer (some ⟨n0,81,none⟩)) (fun w'=>by kernel_rfl) ?_
   simp only[pS]
   refine aB rfl (.slice (some ⟨n0,81,none⟩) (12+16) 28) (fun w'=>by kernel_rfl) ?_
   simp only[pS]
   refine wqN ?_
   refine wTt ?_
   simp only[oS]
   go_wp2_with fail
   refine(CT.out _ n0 S.out.here (S.out.tabs HT.out hb3) (by have q:=gG (S.out.at (.tail _ (.tail _ (.head _)))) 80 28;rw[hK.out.eY]at q;exact Sl.of_range (Array.getElem?_eq_some_iff.1 (S.out.at (.tail _ (.tail _ (.head _))))).1 q) (by have:=hnb.out;omega)).mono ?_
   rintro x y9 (⟨hE2,rfl,hT⟩|⟨hE2,hO2,rfl,hT⟩|⟨hE2,hO2,g6,cap6,rfl,hg1,hg2,hg3,hS6,hT⟩)
   ·have S2:Hid _:=S.out.turn hT
    have HE2:Hid _:=hE2
    clear hT S hE2 CT
    go_wp2_with fail
    refine⟨⟨⟨_,_,S2.out⟩,rfl⟩,?_⟩
    refine wTh ?_
    simp only[oS]
    refine aB rfl (.tuple #[.slice none 0 0,oG 29]) (fun w'=>by kernel_rfl) ?_
    simp only[pS]
    refine aB rfl (.slice none 0 0) (fun w'=>by kernel_rfl) ?_
    simp only[pS]
    refine aB rfl (oG 29) (fun w'=>by kernel_rfl) ?_
    simp only[pS]
    refine wqN ?_
    refine wTt ?_
    simp only[oS]
    go_wp2_with fail
    refine⟨⟨⟨_,_,S2.out⟩,rfl⟩,?_⟩
    refine wTl ?_
    simp only[oS]
    go_wp2_with fail
    refine bE ?_
    have hb12:Hid _:=yM
    go_wp2_with(first
     | refine aV rfl 24 _ rfl (Iv .u8 (aA 12)) _ (by kernel_rfl) hb12.out ?_
     | refine wpPr rfl 24 _ _ rfl (n0+1) (Iv .u8 (aA 12)) rfl rfl _ _ (S2.out.at (.tail _ (.head _))) (iX rfl) rfl (aG _ _) ?_)
    intro y6 hP
    have S3:Hid _:=Sx.putK (R1:=[bB g11 s]) S2.out hP
    clear hP S2
    go_wp2_with fail
    exact bodyPost_ret (v:=.tuple #[.int .i64 0,.agg (Iv .u8 (aA 12)),FJ abR 29]) (lH rfl _ _ _ _ (Iv .u8 (aA 12)) _ _ _ rfl rfl rfl (S3.out.at (.tail _ (.head _))) underlying24 rfl (iX rfl)) rfl (.inl ⟨_,_,m2,C2,H2,rfl,by decide,hK.out.lC2,hK.out.lH2,RD HE.out HO.out HF.out HE2.out,S3.out.tn⟩)
   ·have S2:Hid _:=S.out.turn hT
    have HE2:Hid _:=hE2
    have HO2:Hid _:=hO2
    clear hT S hE2 hO2 CT
    go_wp2_with fail
    refine⟨⟨⟨_,_,S2.out⟩,rfl⟩,?_⟩
    refine wTh ?_
    simp only[oS]
    refine aB rfl (.tuple #[.slice none 0 0,oG 11]) (fun w'=>by kernel_rfl) ?_
    simp only[pS]
    refine aB rfl (.slice none 0 0) (fun w'=>by kernel_rfl) ?_
    simp only[pS]
    refine aB rfl (oG 11) (fun w'=>by kernel_rfl) ?_
    simp only[pS]
    refine wqN ?_
    refine wTt ?_
    simp only[oS]
    go_wp2_with fail
    refine⟨⟨⟨_,_,S2.out⟩,rfl⟩,?_⟩
    refine wTl ?_
    simp only[oS]
    go_wp2_with fail
    refine bE ?_
    have hb12:Hid _:=yM
    go_wp2_with(first
     | refine aV rfl 24 _ rfl (Iv .u8 (aA 12)) _ (by kernel_rfl) hb12.out ?_
     | refine wpPr rfl 24 _ _ rfl (n0+1) (Iv .u8 (aA 12)) rfl rfl _ _ (S2.out.at (.tail _ (.head _))) (iX rfl) rfl (aG _ _) ?_)
    intro y6 hP
    have S3:Hid _:=Sx.putK (R1:=[bB g11 s]) S2.out hP
    clear hP S2
    go_wp2_with fail
    exact bodyPost_ret (v:=.tuple #[.int .i64 0,.agg (Iv .u8 (aA 12)),FJ abR 11]) (lH rfl _ _ _ _ (Iv .u8 (aA 12)) _ _ _ rfl rfl rfl (S3.out.at (.tail _ (.head _))) underlying24 rfl (iX rfl)) rfl (.inl ⟨_,_,m2,C3,H2,rfl,by decide,hK.out.lC3,hK.out.lH2,RE HE.out HO.out HF.out HE2.out HO2.out,S3.out.tn⟩)
   ·have S2:Hid _:=S.out.turn hT
    have HE2:Hid _:=hE2
    have HO2:Hid _:=hO2
    have X0:Hid (Sl y9 g6 0 st):=hS6
    clear hT S hE2 hO2 hg1 hg2 hg3 hS6 CT
    go_wp2_with fail
    refine⟨⟨⟨_,_,S2.out⟩,rfl⟩,?_⟩
    refine wTh ?_
    simp only[oS]
    refine aB rfl (.tuple #[.slice (some ⟨g6,0,none⟩) 12 cap6,.nilIface]) (fun w'=>by kernel_rfl) ?_
    simp only[pS]
    refine aB rfl (.slice (some ⟨g6,0,none⟩) 12 cap6) (fun w'=>by kernel_rfl) ?_
    simp only[pS]
    refine aB rfl (.nilIface) (fun w'=>by kernel_rfl) ?_
    simp only[pS]
    refine wqN ?_
    refine wTt ?_
    simp only[oS]
    go_wp2_with fail
    refine⟨⟨⟨_,_,S2.out⟩,rfl⟩,?_⟩
    refine wTl ?_
    simp only[oS]
    go_wp2_with fail
    refine bE ?_
    go_wp2_with fail
    have S:Hid _:=S2.out.drew
    have X1:Hid (Sl y9.drew g6 0 st):=Sl.later X0.out (bDr (Below.refl _ _) 1) X0.out.1
    clear S2 X0
    refine wRt 5 (fun w'=>∃x:Wp (fun v=>Sx w b (fA C3 H3 (.int .i64 m2::G')) t [bB g11 s,WG (n0+1) (aA 12),uA n0 r z] v∧Sl v g6 0 st),w'=x.w) (.held [0,1,2,3] (.tail 4 (.last 5 (.last 6 .done)))) fH (by kernel_rfl) ⟨⟨_,S.out,X1.out⟩,rfl⟩ ?_
    obtain⟨y10,ey⟩:∃y,y=y9.drew:=⟨_,rfl⟩
    rw[←ey]at S X1⊢
    clear ey
    refine wTh ?_
    simp only[oS]
    refine aB rfl (.int .i64 (k:Int)) (fun w'=>by kernel_rfl) ?_
    simp only[pS]
    refine aB rfl (.slice (some ⟨g6,0,none⟩) 12 cap6) (fun w'=>by kernel_rfl) ?_
    simp only[pS]
    refine aB rfl (.pointer (some ⟨g6,0,none⟩)) (fun w'=>by kernel_rfl) ?_
    simp only[pS]
    refine wqLm rfl 24 _ rfl g6 0 rfl (fK st) _ (fun w' hw'=>by obtain⟨⟨x,hx,h2⟩,rfl⟩:=hw';exact h2.range) underlying24 rfl (by rw[aU,hK.out.lst];kernel_rfl) ?_
    simp only[pS]
    refine wqN ?_
    refine wTt ?_
    simp only[oS]
    go_wp2_with fail
    refine⟨⟨⟨_,S.out,X1.out⟩,rfl⟩,?_⟩
    refine wTl ?_
    simp only[oS]
    go_wp2_with(refine wpPr rfl 24 _ _ rfl (n0+1) (Iv .u8 st) rfl rfl _ _ (S.out.at (.tail _ (.head _))) (iX hK.out.lst) (afT hK.out.lst) (aG _ _) ?_)
    intro y11 hP
    have S3:Hid _:=Sx.putK (R1:=[bB g11 s]) S.out hP
    clear hP S X1
    refine wTl ?_
    simp only[oS]
    go_wp2_with fail
    refine bE ?_
    go_wp2_with fail
    exact bodyPost_ret (v:=.tuple #[.int .i64 k,.agg (Iv .u8 st),.nilIface]) (lH rfl _ _ _ _ (Iv .u8 st) _ _ _ rfl rfl rfl (S3.out.at (.tail _ (.head _))) underlying24 rfl (iX hK.out.lst)) rfl (.inr ⟨k,hkn,rfl,RF HE.out HO.out HF.out HE2.out HO2.out,S3.out.tn⟩)
theorem lP (k who:Int) (st c h:List Int) (m:Int):(kN k who st c h m).toArray.all (·.oneCell')=true:=by simp[kN,Value.oneCell']
theorem gT {k who:Int} {st c h:List Int} {m:Int} (hs:st.length=12) (hc:c.length=32) (hh:h.length=32):(prog.info? 41).map (·.size)=some (kN k who st c h m).toArray.size:=by rw[List.size_toArray,KH _ _ _ _ _ _ hs hc hh];kernel_rfl
theorem ZG {k who:Int} {st c h:List Int} {m:Int} (hs:st.length=12) (hc:c.length=32) (hh:h.length=32):(fN 0 0).toArray.size=(kN k who st c h m).toArray.size:=by rw[List.size_toArray,List.size_toArray,KH _ _ _ _ _ _ hs hc hh];rfl
theorem QW:∀W,(zeroValue 41).run prog W=.ok (.agg (fN 0 0).toArray) W:=fun W=>by kernel_rfl
theorem adZ:∀W,(zeroValue 91).run prog W=.ok (.agg (WH (aA 32) (aA 32) 0 (aA 32)).toArray) W:=fun W=>by kernel_rfl
theorem acM {c h G:List Int} {m:Int} (hc:c.length=32) (hh:h.length=32) (hG:G.length=32):(prog.info? 91).map (·.size)=some (WH c h m G).toArray.size:=by rw[List.size_toArray,SN hc hh hG];kernel_rfl
abbrev rRs (g:Nat) (c h:List Int) (m:Int) (G:List Int):Nat×Array Value×TypeId:=(g,(WH c h m G).toArray,91)
abbrev mH (g:Nat) (v:List Value):Nat×Array Value×TypeId:=(g,v.toArray,41)
set_option maxRecDepth 10000 in
set_option maxHeartbeats 4000000 in
theorem BV {pu l z:List Int} {m:Int} {e X Y C1 H1 p1 k1 C2 H2 s p2 k2 C3 H3 st:List Int} {m1 m2:Int} (K:kT FU (CV pu) l z m e X Y C1 H1 p1 k1 C2 H2 s p2 k2 C3 H3 st m1 m2) (hpl:pu.length=32) (hpb:aE pu) (r:Int) (L:List Int) (n:Nat) (hL:L.length=n*32) (hn:n≤1048576) (kg kc:Nat) (w:World) (hS:Sl w kg 0 L) (ht:dR w) (he:lO w) (hw4:3<w.heap.size):
 Calls prog 15 #[.agg (Iv .u8 l),.agg (Iv .u8 pu),.slice (some ⟨kg,0,none⟩) n kc,.agg (WL r z).toArray,.int .i64 m] w fun x w'=>x=.returned (.agg (qU H1 X H2 Y p1 k1 s p2 k2 C3 H3 st L n m1 m2).toArray)∧Below w.heap.size w w':=by
 have CY:Hid (∀(W:World) (ht:dR W) (h4:3<W.heap.size),_):=fun W ht h4=>yE pu hpl hpb W ht h4
 obtain⟨c,ec⟩:∃c,FU=c:=⟨_,rfl⟩
 obtain⟨h,eh⟩:∃h,CV pu=h:=⟨_,rfl⟩
 rw[ec,eh]at K CY
 have CC:Hid (∀(b:Nat) (hb:3<b) (W:World) (hr:W.heap[b]? =some (.cells (fA c h (.int .i64 m::l.map (Value.int .u8))).toArray 91)) (ht:dR W) (hS:Sl W kg 0 L) (hne:kg≠b),_):=fun b hb W hr ht hS hne=>VU K r L n hL hn kg kc b hb 91 W hr ht hS hne
 have hK:Hid (kT c h l z m e X Y C1 H1 p1 k1 C2 H2 s p2 k2 C3 H3 st m1 m2):=K
 have HPL:Hid _:=hpl
 have HT:Hid (dR w):=ht
 have HE:Hid (lO w):=he
 have HS:Hid (Sl w kg 0 L):=hS
 have HN:Hid (n≤1048576):=hn
 clear K ht he ec eh hpl hpb hS hn hL
 have hz:=fT
 have hz12:∀W,(zeroValue 24).run prog W=.ok (.agg (Iv .u8 (aA 12))) W:=(zero_of_info (n:=12) (by kernel_rfl)).1
 have hzc:=QW
 have hzd:=adZ
 have F0:=((((Rn.start w).alloc' w.heap.size (by first|rfl|simp only[wU]) (Iv .u8 l) 22).alloc' (w.heap.size+1) (by first|rfl|simp only[wU]) (Iv .u8 pu) 22).alloc' (w.heap.size+1+1) (by first|rfl|simp only[wU]) (WL r z).toArray 29).alloc' (w.heap.size+1+1+1) (by first|rfl|simp only[wU]) (fN 0 0).toArray 41
 go_enter func15,ntmps15
 go_wp2_with fail
 obtain⟨n0,e0⟩:∃n,w.heap.size=n:=⟨_,rfl⟩
 rw[e0]at F0 hw4⊢
 obtain⟨W,hW⟩:∃W,(((w.alloc (.cells (Iv .u8 l) 22)).alloc (.cells (Iv .u8 pu) 22)).alloc (.cells (WL r z).toArray 29)).alloc (.cells (fN 0 0).toArray 41)=W:=⟨_,rfl⟩
 rw[hW]at F0⊢
 have S:Hid _:=F0.drew
 have E0:Hid _:=e0
 have H4:Hid (3<w.heap.size):=by show _<_;rw[e0];exact hw4
 clear hW F0 e0 hw4
 refine wRt 7 (fun w'=>∃x:Wp (fun v=>Rn w [mH (n0+1+1+1) (fN 0 0),uA (n0+1+1) r z,bB (n0+1) pu,bB n0 l] v),w'=x.w) (.held [0,2,3,4] (.fork 1 (.held [5] (.tail 6 (.last 7 .done))) 6 (.tail 1 (.held [5] (.last 7 .done))))) fH (by kernel_rfl) ⟨⟨_,S.out⟩,rfl⟩ ?_
 obtain⟨y0,ey⟩:∃y,y=W.drew:=⟨_,rfl⟩
 rw[←ey]at S⊢
 clear ey
 refine wTh ?_
 simp only[oS]
 refine wqLr rfl 22 _ rfl (n0+1) rfl _ (Iv .u8 pu) _ _ (fun w' hw'=>by obtain⟨⟨x,hx⟩,rfl⟩:=hw';exact hx.at (.tail _ (.tail _ (.head _)))) underlying22 rfl (aS HPL.out) ?_
 simp only[pS]
 refine aB rfl (.int .i64 m) (fun w'=>by kernel_rfl) ?_
 simp only[pS]
 refine aB rfl (.agg #[.int .i64 m]) (fun w'=>by kernel_rfl) ?_
 simp only[pS]
 refine wqLr rfl 22 _ rfl (n0) rfl _ (Iv .u8 l) _ _ (fun w' hw'=>by obtain⟨⟨x,hx⟩,rfl⟩:=hw';exact hx.at (.tail _ (.tail _ (.tail _ (.head _))))) underlying22 rfl (aS hK.out.ll) ?_
 simp only[pS]
 refine wqN ?_
 apply eI (.last 7 .done) (fun g v'=>Rn w [rRs g (aA 32) (aA 32) 0 (aA 32),mH (n0+1+1+1) (fN 0 0),uA (n0+1+1) r z,bB (n0+1) pu,bB n0 l] v')
 intro hZ
 ·refine wTf ?_ ?_
  ·simp only[oS]
   go_wp2_with fail
   refine(CY.out y0 (HT.out.later S.out.bel (nQ _)) (nJ H4.out S.out.bel.size)).mono ?_
   rintro x Z ⟨rfl,hb⟩
   have S2:Hid _:=S.out.later hb (nQ _)
   clear hb
   go_wp2_with fail
   refine⟨⟨⟨_,S2.out⟩,rfl⟩,?_⟩
   refine wTh ?_
   simp only[oS]
   refine bT rfl 91 _ rfl (WH c h m l).toArray _ (by kernel_rfl) (IJ c h l m hK.out.lc hK.out.lh hK.out.ll) ?_
   simp only[pS]
   refine wqN ?_
   refine wTt ?_
   simp only[oS]
   go_wp2_with fail
   have S3:=S2.out.alloc (WH (aA 32) (aA 32) 0 (aA 32)).toArray 91
   refine⟨⟨⟨_,S3.tail⟩,rfl⟩,?_⟩
   obtain⟨g,eg⟩:∃g,g=Z.heap.size:=⟨_,rfl⟩
   rw[←eg]at S3⊢
   clear eg
   exact hZ.out g _ S3
  ·simp only[oS]
   go_wp2_with fail
   have S3:=S.out.alloc (WH (aA 32) (aA 32) 0 (aA 32)).toArray 91
   refine⟨⟨⟨_,S3.tail⟩,rfl⟩,?_⟩
   obtain⟨g,eg⟩:∃g,g=y0.heap.size:=⟨_,rfl⟩
   rw[←eg]at S3⊢
   clear eg
   have S4:Hid _:=S3
   clear S3
   refine wTt ?_
   simp only[oS]
   go_wp2_with fail
   refine(CY.out _ (HT.out.later S4.out.bel (nQ _)) (nJ H4.out S4.out.bel.size)).mono ?_
   rintro x Z ⟨rfl,hb⟩
   have S5:Hid _:=S4.out.later hb (nQ _)
   clear hb
   go_wp2_with fail
   refine⟨⟨⟨_,S5.out.tail⟩,rfl⟩,?_⟩
   refine wTh ?_
   simp only[oS]
   refine bT rfl 91 _ rfl (WH c h m l).toArray _ (by kernel_rfl) (IJ c h l m hK.out.lc hK.out.lh hK.out.ll) ?_
   simp only[pS]
   refine wqN ?_
   exact hZ.out g _ S5.out
 intro g v1 H
 have S4:Hid _:=H
 clear H S CY
 refine wTl ?_
 simp only[oS]
 go_wp2_with(refine wpPr rfl 91 _ _ rfl g (WH c h m l).toArray rfl rfl _ _ (S4.out.at (.head _)) (acM hK.out.lc hK.out.lh hK.out.ll) (agP hK.out.lc hK.out.lh hK.out.ll) (aeV _ _ _ _) ?_)
 intro v2 hP
 have F:Hid _:=S4.out.put0 hP
 clear hP S4
 refine bE ?_
 go_wp2_with(refine wpLr rfl 29 _ rfl (n0+1+1) rfl _ (WL r z).toArray _ _ (F.out.at (.tail _ (.tail _ (.head _)))) underlying29 rfl (acJ hK.out.lz) ?_)
 have hg3:3<g:=nJ H4.out (F.out.ge (.head _))
 have hkg:kg≠g:=by have h1:=HS.out.1;have h2:=F.out.ge (.head _);omega
 refine(CC.out g hg3 v2 (F.out.at (.head _)) (HT.out.later F.out.bel (nQ _)) (Sl.later HS.out F.out.bel HS.out.1) hkg).mono ?_
 clear hkg
 rintro x Z (⟨s',code,mm,cc,hh,rfl,hc30,lcc,lhh,hO,hT⟩|⟨k,hkn,rfl,hO,hT⟩)
 ·have EV:Hid (qU H1 X H2 Y p1 k1 s p2 k2 C3 H3 st L n m1 m2=fN code mm):=hO
  have F1:=Rn.turnK (R1:=[]) F.out hT
  have F4:Hid _:=F1.alloc (Iv .u8 (aA 12)) 24
  have LC:Hid (cc.length=32∧hh.length=32∧code≠30):=⟨lcc,lhh,hc30⟩
  clear hT F F1 CC hO lcc lhh hc30
  obtain⟨n2,e2⟩:∃n,Z.heap.size=n:=⟨_,rfl⟩
  rw[e2]at F4
  go_wp2_with(refine wpPr rfl 24 _ _ rfl n2 (Iv .u8 (aA 12)) rfl rfl _ _ (F4.out.at (.head _)) (iX rfl) rfl (aG _ _) ?_)
  intro Z2 hP
  have F5:Hid _:=F4.out.put0 hP
  clear hP F4 e2
  go_wp2_with fail
  refine(O0 s' code Z2 (HE.out.later F5.out.bel (nQ _))).mono ?_
  rintro x Z3 ⟨rfl,hb⟩
  have F6:Hid _:=F5.out.later hb (nQ _)
  clear hb F5
  have hcm:=abC (F6.out.at (.tail _ (.head _))) LC.out.1 LC.out.2.1
  have hbc:Hid _:=rP code mm
  have hne30:code≠30:=LC.out.2.2
  go_wp2_with(first
   | refine aV rfl 41 _ rfl (fN code mm).toArray _ (by kernel_rfl) hbc.out ?_
   | refine wpPr rfl 41 _ _ rfl (n0+1+1+1) (fN code mm).toArray rfl rfl _ _ (F6.out.at (.tail _ (.tail _ (.head _)))) (gT rfl rfl rfl) rfl (lP _ _ _ _ _ _) ?_)
  intro Z4 hP
  have F7:Hid _:=F6.out.put2 hP
  clear hP F6 hcm
  go_wp2_with fail
  exact bodyPost_ret (v:=.agg (fN code mm).toArray) (results_cell_row rfl _ _ _ _ (fN code mm).toArray _ _ rfl (F7.out.at (.tail _ (.tail _ (.head _)))) underlying41 rfl (gT rfl rfl rfl)) rfl ⟨by rw[EV.out],F7.out.bel⟩
 ·have EV:Hid (qU H1 X H2 Y p1 k1 s p2 k2 C3 H3 st L n m1 m2=kN 30 ((k:Int)+1) st C3 H3 m2):=hO
  have F1:=Rn.turnK (R1:=[]) F.out hT
  have F4:Hid _:=F1.alloc (Iv .u8 (aA 12)) 24
  clear hT F F1 CC hO
  obtain⟨n2,e2⟩:∃n,Z.heap.size=n:=⟨_,rfl⟩
  rw[e2]at F4
  go_wp2_with(refine wpPr rfl 24 _ _ rfl n2 (Iv .u8 st) rfl rfl _ _ (F4.out.at (.head _)) (iX hK.out.lst) (afT hK.out.lst) (aG _ _) ?_)
  intro Z2 hP
  have F5:Hid _:=F4.out.put0 hP
  clear hP F4 e2
  go_wp2_with fail
  refine(O1 Z2).mono ?_
  rintro x Z3 ⟨rfl,hb⟩
  have F6:Hid _:=F5.out.later hb (nQ _)
  clear hb F5
  have hcm:=abC (F6.out.at (.tail _ (.head _))) hK.out.lC3 hK.out.lH3
  have hcc:Hid _:=adT (F6.out.at (.tail _ (.head _))) hK.out.lC3
  have hch:Hid _:=adU (F6.out.at (.tail _ (.head _))) hK.out.lC3 hK.out.lH3
  have hbc:Hid _:=WW 30 ((k:Int)+1) st C3 H3 m2 hK.out.lst hK.out.lC3 hK.out.lH3
  have hkw:IntKind.i64.wrap ((k:Int)+1)=(k:Int)+1:=by have h1:=HN.out;exact IntWalk.i64_in _ (by omega)
  go_wp2_with(first
   | refine wpLr rfl 24 _ rfl n2 rfl _ (Iv .u8 st) _ _ (F6.out.at (.head _)) underlying24 rfl (iX hK.out.lst) ?_
   | refine wpList_load_mid rfl 22 _ rfl g 0 rfl (C3.map (Value.int .u8)) _ hcc.out underlying22 rfl (eM hK.out.lC3) ?_
   | refine wpList_load_mid rfl 22 _ rfl g 32 rfl (H3.map (Value.int .u8)) _ hch.out underlying22 rfl (eM hK.out.lH3) ?_
   | refine aV rfl 41 _ rfl (kN 30 ((k:Int)+1) st C3 H3 m2).toArray _ (by kernel_rfl) hbc.out ?_
   | refine wpPr rfl 41 _ _ rfl (n0+1+1+1) (kN 30 ((k:Int)+1) st C3 H3 m2).toArray rfl rfl _ _ (F6.out.at (.tail _ (.tail _ (.head _)))) (gT hK.out.lst hK.out.lC3 hK.out.lH3) (ZG hK.out.lst hK.out.lC3 hK.out.lH3) (lP _ _ _ _ _ _) ?_)
  intro Z5 hP
  have F8:Hid _:=F6.out.put2 hP
  clear hP F6 hcm hcc hch hbc
  go_wp2_with fail
  exact bodyPost_ret (v:=.agg (kN 30 ((k:Int)+1) st C3 H3 m2).toArray) (results_cell_row rfl _ _ _ _ (kN 30 ((k:Int)+1) st C3 H3 m2).toArray _ _ rfl (F8.out.at (.tail _ (.tail _ (.head _)))) underlying41 rfl (gT hK.out.lst hK.out.lC3 hK.out.lH3)) rfl ⟨by rw[EV.out],F8.out.bel⟩
end Go.Proofs.YtgcepckaolkeoaaGreatDoor
