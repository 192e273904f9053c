import Derived.ShutString
import Derived.ChangeOld
import Derived.Below
import Derived.Test.YtgcepckaolkeoaaGreatDoorMZ03
namespace Go.Proofs.YtgcepckaolkeoaaGreatDoor
open Go.RowKit
open Go.ChangeShapes Go.WideShapes Go.ChangeAt Go.RowKit
open Go.Proofs.Tryz
open Go renaming heap_alloc_new → hAN, wpList_load_row → wpLr
open List renaming length_append → lQ, length_set → lJ, replicate → rQ
open Nat renaming le_refl → nQ, le_trans → nU, lt_of_lt_of_le → nJ
set_option linter.unusedVariables false
def iv (k:IntKind) (l:List Int):List Value:=l.map (Value.int k)
theorem fW (k:IntKind) (l:List Int):(iv k l).length=l.length:=by simp[iv]
theorem CX (k:IntKind) (l:List Int) (i:Nat):(iv k l)[i]? =l[i]?.map (Value.int k):=by simp[iv]
theorem GL (k:IntKind) (l r:List Int):iv k (l++r)=iv k l++iv k r:=by simp[iv]
theorem aaK (k:IntKind) (l:List Int) (i:Nat) (y:Int):iv k (l.set i y)=(iv k l).set i (.int k y):=by simp[iv]
theorem JG (k:IntKind) (l:List Int):∀u∈iv k l,u.oneCell'=true:=ints_oneCell k l
def bX (k:IntKind) (e:TypeId) (base:Nat) (w:World) (v:Value) (l:List Int):Prop:=w.ownsRow base e 1 v l.length (iv k l)
theorem FA {w w1 w2:World} {row:Option Nat} (h:w.grownBy w1 row) (g:w1.grownBy w2 row):w.grownBy w2 row:=
 ⟨g.os.trans h.os,g.tape.trans h.tape,g.output.trans h.output,nU h.size g.size,fun k hk hne=>(g.block k (nJ hk h.size) hne).trans (h.block k hk hne)⟩
theorem bX.at {k:IntKind} {e:TypeId} {base:Nat} {w:World} {v:Value} {l:List Int} (h:bX k e base w v l):
 (v=.slice none 0 0∧l=[])∨∃g cap,v=.slice (some ⟨g,0,none⟩) l.length cap∧base≤g∧g<w.heap.size∧l.length≤cap∧cap≤9223372036854775807∧(∀i,i<l.length→w.cell? ⟨g,i,none⟩=some (.int k (l.getD i 0)))∧(∀i,w.frozen? ⟨g,i,none⟩=false):=by
 have h':=h
 obtain⟨hl,⟨hv,hn⟩|⟨g,cap,cur,hv,hg,hh,hc,hm,hs,ht⟩⟩:=h
 ·exact .inl ⟨hv,List.length_eq_zero_iff.1 hn⟩
 ·refine .inr ⟨g,cap,hv,hg,(Array.getElem?_eq_some_iff.1 hh).1,hc,by unfold maxLen at hm;omega,?_,?_⟩
  ·intro i hi
   subst hv
   have:=World.ownsRow.cellAt h' i (by omega)
   rw[this,CX]
   simp[hi]
  ·intro i
   exact frozen_of_row _ _ _ _ _ hh
theorem bX.nil {k:IntKind} {e:TypeId} {base:Nat} (w:World) (hb:base≤w.heap.size):bX k e base (w.alloc (.cells #[] e)) (.slice (some ⟨w.heap.size,0,none⟩) 0 0) []:=
 World.ownsRow_made w #[] 0 hb (by unfold maxLen;omega) rfl
theorem bX.kept {k:IntKind} {e:TypeId} {base:Nat} {w w':World} {v:Value} {l:List Int} {row:Option Nat} (h:bX k e base w v l) (hg:w.grownBy w' row) (hne:v.ownBlock=none∨v.ownBlock≠row):bX k e base w' v l:=World.ownsRow.kept h hg hne
theorem bX.lt {k:IntKind} {e:TypeId} {base:Nat} {w:World} {v:Value} {l:List Int} (h:bX k e base w v l):∀g,v.ownBlock=some g→base≤g∧g<w.heap.size:=World.ownsRow.lt h
theorem xF {P:Program} {w:World} {base:Nat} {t ty e:TypeId} {i:TypeInfo} {z:Value} {bytes:Nat} (ht:P.underlying t=some (.slice e)) (hi:P.info? e=some i) (hz:i.zero=some z)
 (hsize:i.size=1) (hby:i.bytes=bytes) (hzs:z.cells.size=1)
 {v:Value} {n:Nat} {xs:List Value} (hown:w.ownsRow base e 1 v n xs)
 {a:Addr} {m c:Nat} {news:List Value} (hl:news.length=m*1) (hnews:∀j u,news[j]? =some u→w.cell? (a.add j)=some u) (h1:∀u∈news,u.oneCell'=true)
 (h63:n+m≤maxLen) (hbytes:(n+m)*bytes≤140737488355328) {v':Value} {w':World} (hr:(Builtin.append_ #[t,t] ty #[v,.slice (some a) m c]).run P w=.ok v' w'):
 v'.ownBlock=v.ownBlock∨v'.ownBlock=some w.heap.size:=by
 subst hby
 have hsmall:n+m≤9223372036854775807:=by simp only[maxLen]at h63;omega
 rw[←hsize]at hl
 rcases hown.2 with ⟨rfl,rfl⟩|⟨g,cap,cur,rfl,hbg,hg,hnc,hcm,hcs,htake⟩
 ·by_cases hm:m=0
  ·subst hm
   have hn:news=[]:=List.eq_nil_of_length_eq_zero (by simpa using hl)
   subst hn
   left
   have h2:(Builtin.append_ #[t,t] ty #[.slice none 0 0,.slice (some a) 0 c]).run P w=.ok (.slice none 0 0) w:=by
    simp[Builtin.append_,run_underlying ht,sizeOf,typeInfo,hi,Builtin.lenOf,Builtin.firstCells,loadCells,loadCellsFrom]
   rw[h2]at hr
   cases hr
   rfl
  ·have h2:=run_append_nil (P:=P) w t ty e i z ht hi hz a m c news hl hnews (by omega) (by omega) (by have hb:=hbytes;simp only[Nat.zero_add]at hb;omega)
   rw[h2]at hr
   cases hr
   exact .inr rfl
 ·by_cases hroom:n+m≤cap
  ·have hfit:n*i.size+news.length≤cur.size:=by rw[hl,hcs,hsize];omega
   have h2:=run_append_room (P:=P) w t ty e i ht hi g n cap cur hg a m c news hl hnews h1 hroom hfit
   rw[h2]at hr
   cases hr
   exact .inl rfl
  ·have holds:∀j u,xs[j]? =some u→w.cell? ((⟨g,0,none⟩:Addr).add j)=some u:=hown.cells (g:=g) rfl
   have h2:=run_append_grow (P:=P) w t ty e i z ht hi hz ⟨g,0,none⟩ n cap xs (by rw[hsize];exact hown.1) holds a m c news hl hnews (by omega) (by omega) (growslice_fits (by omega) hbytes)
   rw[h2]at hr
   cases hr
   exact .inr rfl
theorem cU {P:Program} {ops:Array Oper} {rest:List Oper} {o:Oper} {a:Act} {Q:Exit→Act→World→Prop} (k:IntKind) (t e:TypeId) (bytes:Nat) (ht:P.underlying t=some (.slice e))
 (hinfo:(P.info? e).map (fun i=>(i.zero,i.size,i.bytes))=some (some (.int k 0),1,bytes)) (hby:bytes≤8) (hgd:o.guard=none) (s x:Operand) (ho:o.op=.call { callee:=.builtin .append,args:=#[s,x],argTypes:=#[t,t] })
 (base:Nat) (w0 wr:World) (v:Value) (l:List Int) (b o' m c:Nat) (news:List Int) (hm:news.length=m) (hs:a.eval s=v) (hx:a.eval x=.slice (some ⟨b,o',none⟩) m c) (hown:bX k e base wr v l) (hbel:Below base w0 wr) (hbase:base≤wr.heap.size) (hlen:l.length+m≤1000000000)
 (hnews:∀j,j<m→wr.cell? ⟨b,o'+j,none⟩=some (.int k (news.getD j 0)))
 (h:∀v' w',bX k e base w' v' (l++news)→Below base w0 w'→wr.grownBy w' v.ownBlock→(v'.ownBlock=v.ownBlock∨v'.ownBlock=some wr.heap.size)→wpList P ops Q rest (a.put o.dst v') w'):wpList P ops Q (o::rest) a wr:=by
 obtain⟨i,hi,hz,hsz,hb⟩:=info_parts hinfo
 have g1:∀j u,(iv k news)[j]? =some u→wr.cell? ((⟨b,o',none⟩:Addr).add j)=some u:=by
  intro j u hj
  have hj':j<m:=by
   have:=(List.getElem?_eq_some_iff.1 hj).1
   rw[fW]at this
   omega
  have hadd:(⟨b,o',none⟩:Addr).add j=⟨b,o'+j,none⟩:=by unfold Addr.add;split<;>simp_all
  rw[hadd,hnews j hj']
  rw[CX]at hj
  rw[←hj]
  simp[show j<news.length by omega]
 have g2:l.length+m≤maxLen:=by unfold maxLen;omega
 have g3:(l.length+m)*bytes≤140737488355328:=by
  have:(l.length+m)*bytes≤(l.length+m)*8:=Nat.mul_le_mul_left _ hby
  omega
 have g4:(iv k news).length=m*1:=by rw[fW];omega
 obtain⟨v',w',hr,h1,h2,_⟩:=run_append_own (P:=P) wr base t o.type e i (.int k 0) 1 bytes ht hi hz hsz hb rfl (by decide) v l.length (iv k l) hown ⟨b,o',none⟩ m c (iv k news) g4 g1 (JG k news) g2 g3 hbase
 have h4:=xF ht hi hz hsz hb rfl hown g4 g1 (JG k news) g2 g3 hr
 refine wpList_plain hgd fun K hK=>?_
 unfold Oper.wp execOp
 simp only[ho,resolve,invoke,builtin,Sem.run_bind,Sem.run_pure,Result.andThen_ok,List.map_toArray,List.map_cons,List.map_nil,hs,hx,hr]
 refine hK _ _ (h v' w' ?_ (hbel.grown h2 hbase (fun g hg=>(bX.lt hown g hg).1)) h2 h4)
 unfold bX
 rw[GL,lQ,hm]
 exact h1
theorem cI {P:Program} {ops:Array Oper} {rest:List Oper} {o:Oper} {a:Act} {Q:Exit→Act→World→Prop} (k:IntKind) (t e:TypeId) (bytes:Nat) (ht:P.underlying t=some (.slice e))
 (hinfo:(P.info? e).map (fun i=>(i.zero,i.size,i.bytes))=some (some (.int k 0),1,bytes)) (hby:bytes≤8) (hgd:o.guard=none) (s x:Operand) (ho:o.op=.call { callee:=.builtin .append,args:=#[s,x],argTypes:=#[t,t] })
 (base:Nat) (w0 wr:World) (v:Value) (l:List Int) (y:Int) (hs:a.eval s=v) (hx:a.eval x=.slice (some ⟨wr.heap.size,0,none⟩) 1 1) (hown:bX k e base wr v l) (hbel:Below base w0 wr) (hbase:base≤wr.heap.size) (hlen:l.length≤100000000)
 (h:∀v' w',bX k e base w' v' (l++[y])→Below base w0 w'→wr.grownBy w' v.ownBlock→(v'.ownBlock=v.ownBlock∨v'.ownBlock=some (wr.heap.size+1))→wpList P ops Q rest (a.put o.dst v') w'):wpList P ops Q (o::rest) a (wr.alloc (.cells #[.int k y] e)):=by
 refine cU k t e bytes ht hinfo hby hgd s x ho base w0 _ v l wr.heap.size 0 1 1 [y] rfl hs hx (World.ownsRow.alloc hown _) (hbel.alloc hbase _) (by simp;omega) (by omega) ?_ ?_
 ·intro j hj
  obtain rfl:j=0:=by omega
  simp
 ·intro v' w' h1 h2 h3 h4
  refine h v' w' h1 h2 (FA (World.grownBy_alloc wr (.cells #[.int k y] e) v.ownBlock) h3) ?_
  simpa using h4
theorem AO (w:World) (g i:Nat) (v:Value):w.grownBy (w.setCell ⟨g,i,none⟩ v) (some g):=
 ⟨rfl,rfl,rfl,by simp,fun k hk hne=>heap_setCell_other w ⟨g,i,none⟩ k v (fun e=>hne (by rw[e]))⟩
theorem bX.set {k:IntKind} {e:TypeId} {base:Nat} {w:World} {g n cap:Nat} {l:List Int} (h:bX k e base w (.slice (some ⟨g,0,none⟩) n cap) l) (j:Nat) (y:Int):
 bX k e base (w.setCell ⟨g,j,none⟩ (.int k y)) (.slice (some ⟨g,0,none⟩) n cap) (l.set j y):=by
 have hn:n=l.length:=by
  obtain⟨_,⟨hv,_⟩|⟨g',cap',cur,hv,_⟩⟩:=h
  ·cases hv
  ·simp at hv;exact hv.2.1
 subst hn
 unfold bX at*
 rw[aaK,lJ]
 exact(World.ownsRow.stored h j (.int k y)).1
theorem bX.drews {k:IntKind} {e:TypeId} {base:Nat} {w:World} {v:Value} {l:List Int} (h:bX k e base w v l) (n:Nat):bX k e base (w.drewN n) v l:=h
theorem bX.later {k:IntKind} {e:TypeId} {base:Nat} {w w':World} {v:Value} {l:List Int} (h:bX k e base w v l) (hb:Below w.heap.size w w'):bX k e base w' v l:=
 h.kept (row:=none) ⟨hb.os,hb.tape,hb.output,hb.size,fun j hj _=>hb.block j hj⟩ (by cases hv:v.ownBlock with|none=>exact .inl rfl|some _=>exact .inr (by simp))
def WJ (k:IntKind) (w:World) (a:Option Addr) (d:List Int):Prop:=∀i,i<d.length→∃b o,a=some ⟨b,o,none⟩∧w.cell? ⟨b,o+i,none⟩=some (.int k (d.getD i 0))
theorem bX.made {k:IntKind} {e:TypeId} {base:Nat} (w:World) (n:Nat) (hb:base≤w.heap.size) (hn:n≤1000000):bX k e base (w.alloc (.cells (Iv k (rQ n 0)) e)) (.slice (some ⟨w.heap.size,0,none⟩) n n) (rQ n 0):=by
 refine⟨by simp[fW],.inr ⟨w.heap.size,n,Iv k (rQ n 0),by simp,hb,hAN w _,by simp,by unfold maxLen;omega,by simp[aC],?_⟩⟩
 simp[Iv,iv]
theorem bX.take {k:IntKind} {e:TypeId} {base:Nat} {w:World} {g n cap:Nat} {l:List Int} (h:bX k e base w (.slice (some ⟨g,0,none⟩) n cap) l) (m:Nat) (hm:m≤n):bX k e base w (.slice (some ⟨g,0,none⟩) m cap) (l.take m):=by
 obtain⟨hl,⟨hv,_⟩|⟨g',cap',cur,hv,hg,hh,hc,hmx,hs,ht⟩⟩:=h
 ·cases hv
 ·simp at hv
  obtain⟨rfl,rfl,rfl⟩:=hv
  have hlen:(l.take m).length=m:=by rw[List.length_take];omega
  refine⟨by simp[fW],.inr ⟨g,cap,cur,by rw[hlen],hg,hh,by omega,hmx,hs,?_⟩⟩
  rw[hlen,Nat.mul_one]at*
  have:(cur.toList.take l.length).take m=(iv k l).take m:=by rw[ht]
  rw[List.take_take,Nat.min_eq_left hm]at this
  rw[this]
  simp[iv]
theorem bX.mono {k:IntKind} {e:TypeId} {base base':Nat} {w:World} {v:Value} {l:List Int} (h:bX k e base w v l) (hb:base'≤base):bX k e base' w v l:=by
 obtain⟨hl,⟨hv,hn⟩|⟨g',cap',cur,hv,hg,hh,hc,hmx,hs,ht⟩⟩:=h
 ·exact⟨hl,.inl ⟨hv,hn⟩⟩
 ·exact⟨hl,.inr ⟨g',cap',cur,hv,by omega,hh,hc,hmx,hs,ht⟩⟩
def UW:Value→Int
 | .int _ n=>n
 | _=>0
theorem i7 {H:Type} {enc:TypeId×Value→H} {P:Program} {w:World} {base b0 n:Nat} {spare:Nat→Bool} {held:Bool} {r:Reach} {t e:TypeId} {k:IntKind} {v:Value} {d:DataW H} {p:List MemPlace}
 (ht:P.underlying t=some (.array n e)) (he:P.underlying e=some (.int k)) (hce:P.cellsOf e=1) (hn:P.cellsOf t=n) (hv:Value.okWide P w r b0 t v) (h:DataW.Trod enc P w base spare held t v d p):
 ∃l:List Int,v=.agg (Iv k l)∧l.length=n∧∀i,i<n→(Lit.int k (l.getD i 0)).wf=true:=by
 simp only[Value.okWide,ht]at hv
 obtain⟨cs,rfl,hsz,_⟩:=hv
 obtain⟨fuel,hf⟩:=h
 obtain⟨xs,m,_,_,hlen,hxl,hx⟩:=DataW.trod_array ht hf
 simp only[Value.cells]at hlen hx
 have hsize:cs.size=n:=by rw[←hn];simpa using hlen
 have hcell:∀i,i<n→∃a,cs[i]? =some (.int k a)∧(Lit.int k a).wf=true:=by
  intro i hi
  have h1:=hx i hi
  rw[hce,Nat.mul_one,List.getElem?_eq_getElem (show i<xs.length by omega)]at h1
  obtain⟨a,ea,_,wa⟩:=DataW.trod_int he h1
  have hd:(cs.toList.drop i).take 1=[cs[i]'(by omega)]:=by
   rw[List.drop_eq_getElem_cons (by simp;omega)]
   simp
  rw[hd]at ea
  simp only[List.cons.injEq,and_true]at ea
  exact⟨a,by rw[Array.getElem?_eq_getElem (by omega),ea],wa⟩
 refine⟨cs.toList.map UW,?_,by simp[hsize],?_⟩
 ·congr 1
  apply Array.ext
  ·simp[aC]
  ·intro i h1 h2
   obtain⟨a,ha,_⟩:=hcell i (by omega)
   rw[Array.getElem?_eq_getElem h1]at ha
   simp only[Option.some.injEq]at ha
   simp[Iv,ha,UW]
 ·intro i hi
  obtain⟨a,ha,wa⟩:=hcell i hi
  simp[ha,UW,wa]
theorem tH {l:List Int} (h:∀i,i<l.length→(Lit.int .u8 (l.getD i 0)).wf=true):aE l:=by
 intro i
 by_cases hi:i<l.length
 ·have:=h i hi
  simp only[Lit.wf,IntKind.min,IntKind.max,IntKind.signed,IntKind.bits]at this
  simp at this
  simpa using this
 ·simp[List.getD_eq_getElem?_getD,List.getElem?_eq_none (show l.length≤i by omega)]
theorem bI {a b:List Int} (ha:aE a) (hb:aE b):aE (a++b):=by
 intro i
 have h1:=ha i
 have h2:=hb (i - a.length)
 simp only[List.getD_eq_getElem?_getD,List.getElem?_append]at*
 split
 ·exact h1
 ·exact h2
def lenOf:Value→Nat
 | .slice _ n _=>n
 | _=>0
theorem JA:(prog.info? 5).map (·.size)=some 1:=by kernel_rfl
set_option maxRecDepth 10000 in
set_option maxHeartbeats 2000000 in
theorem AL (h0 D P:List Int) (k t fn:Nat) (h b:List Int) (htk:Hid (t=64*k)) (s:pV h0 D k fn h b) (hk:0<fn∨k=0) (hh0:h0.length=8) (h032:bC h0) (hD:aE D) (hP:aE P) (n cap:Nat) (hn:P.length=n) (hcap:n≤cap) (hcap2:cap≤9223372036854775807) (hlen:D.length+n≤1000000000000) (bb oo:Nat) (w:World)
 (hc:∀j,j<n→w.cell? ⟨bb,oo+j,none⟩=some (.int .u8 (P.getD j 0))) (hbb:0<n→bb<w.heap.size) (ht:dU w):
 Calls prog 119 #[.agg (dE h t b fn),.slice (some ⟨bb,oo,none⟩) n cap] w fun e w'=>∃(k' t' fn':Nat) (h' b':List Int),e=.returned (.agg (dE h' t' b' fn'))∧t'=64*k'∧pV h0 (D++P) k' fn' h' b'∧(0<fn'∨k'=0)∧Below w.heap.size w w':=by
 have hzv:=D8
 have HT:Hid _:=ht
 have HC:Hid _:=hc
 have HS:Hid _:=s
 have HK:Hid _:=hk
 clear ht hc s hk
 go_enter func119,ntmps119
 go_wp2_with fail
 go_loopw [1] (fun v wr=>∃(j k' t' fn':Nat) (h' b':List Int) (a':Option Addr),j≤n∧v=.slice a' (n - j) (cap - j)∧(j<n→a'=some ⟨bb,oo+j,none⟩)∧t'=64*k'∧pV h0 (D++P.take j) k' fn' h' b'∧(0<fn'∨k'=0)∧wr.heap[w.heap.size]? =some (.cells (dE h' t' b' fn') 184)∧wr.heap[w.heap.size+1]? =some (.cells (dE (aA 8) 0 (aA 64) 0) 184)∧Below w.heap.size w wr) (fun v _=>lenOf v)
 case atStart=>
  obtain⟨W,hW,g0,g1,hs,hb⟩:=kG w (.cells (dE h t b fn) 184) (.cells (dE (aA 8) 0 (aA 64) 0) 184)
  subst hW
  exact⟨0,k,t,fn,h,b,_,Nat.zero_le _,rfl,fun _=>rfl,htk.out,by simpa using HS.out,HK.out,g0,g1,hb⟩
 case round=>
  obtain⟨j,k1,t1,fn1,h1,b1,a1,hj,rfl,ha,ht1,s1,hk1,M0,M1,MB⟩:=hrel
  have hh1:h1.length=8:=by rw[s1.words];exact iH h0 _ hh0 k1
  have h132:Hid (bC h1):=by show bC h1;rw[s1.words];exact zH h032 _ k1
  have hb1:=s1.blk
  have hf1:=s1.fill
  have hl1:D.length+j=64*k1+fn1:=by have:=s1.len;rw[lQ,List.length_take]at this;omega
  have hiS:Hid (∀(h':List Int) (t' f':Int) (b':List Int),h'.length=8→b'.length=64→(prog.info? 184).map (·.size)=some (dE h' t' b' f').size):=fun h' t' f' b' hh' hb'=>by rw[eW h' t' b' f' hh' hb'];exact yY
  clear HS HK htk
  have S1:Hid _:=s1
  clear s1
  by_cases hlt:j<n
  ·obtain rfl:=ha hlt
   have hnj:(0:Int)<((n - j:Nat):Int):=by omega
   have HBY:Hid (aE (b1.take fn1)):=pV.bytes S1.out (bI hD (eM hP j))
   have HCJ:Hid (∀i,i<n - j→wr.cell? ⟨bb,oo+j+i,none⟩=some (.int .u8 ((P.drop j).getD i 0))):=fun i hi=>by
    have hlo:=hbb (by omega)
    rw[MB.cell (p:=⟨bb,oo+j+i,none⟩) hlo,show oo+j+i=oo+(j+i) by omega,HC.out (j+i) (by omega)]
    simp[List.getD_eq_getElem?_getD,List.getElem?_drop]
   by_cases hfull:fn1=64
   ·subst hfull
    have cf:wr.cell? ⟨w.heap.size,73,none⟩=some (.int .i64 64):=by rw[cell_of_row _ _ _ _ _ _ M0,nM h1 _ b1 _ hh1 hb1];rfl
    have hlw:w.heap.size+1<wr.heap.size:=(Array.getElem?_eq_some_iff.1 M1).1
    have HSQ:Hid _:=pV.squeezed S1.out
    have hq1:t1+64<9223372036854775808:=by omega
    have HT1:Hid _:=ht1
    have N0:Hid _:=M0
    have N1:Hid _:=M1
    have NB:Hid _:=MB
    clear M0 M1 MB ht1
    go_wp2_with(refine wpLr rfl 184 _ rfl w.heap.size rfl _ (dE h1 t1 b1 (64:Nat)) _ _ N0.out underlying184 rfl (hiS.out h1 _ _ b1 hh1 hb1) ?_)
    obtain⟨h2,hh2d⟩:∃x,jL h1 (gQ (b1.take 64)) (t1+64) false=x:=⟨_,rfl⟩
    have hh2:h2.length=8:=by rw[←hh2d];exact pO _ _ _ _
    have S2:Hid (pV h0 (D++P.take j) (k1+1) 0 h2 b1):=by
     show pV _ _ _ _ _ _
     rw[←hh2d,HT1.out]
     exact HSQ.out
    refine(xO h1 b1 t1 64 false wr hh1 hb1 h132.out HBY.out (nQ _) hq1 (HT.out.later NB.out (nQ _)) h2 hh2d hh2).mono ?_
    obtain⟨t2,ht2'⟩:∃x,x=t1+64:=⟨_,rfl⟩
    rw[←ht2']
    have HT2:Hid (t2=64*(k1+1)):=by show _=_;rw[ht2',HT1.out];omega
    have hq2:t2≤2000000000000:=by have:=HT1.out;omega
    rintro e w1 ⟨rfl,hb4⟩
    have P0:Hid (w1.heap[w.heap.size]? =some (.cells (dE h1 t1 b1 (64:Nat)) 184)):=(hb4.block w.heap.size (by omega)).trans N0.out
    have P1:Hid _:=(hb4.block (w.heap.size+1) (by omega)).trans N1.out
    have PB:Hid (Below w.heap.size w w1):=NB.out.trans (hb4.mono NB.out.size)
    have HCJ1:Hid (∀i,i<n - j→w1.cell? ⟨bb,oo+j+i,none⟩=some (.int .u8 ((P.drop j).getD i 0))):=fun i hi=>(hb4.cell (p:=⟨bb,oo+j+i,none⟩) (by have:=hbb (by omega);have:=NB.out.size;show bb<_;omega)).trans (HCJ.out i hi)
    clear hb4 N0 N1 NB hh2d HSQ HT1 ht2' cf
    go_wp2_with(refine wpPr rfl 184 _ _ rfl w.heap.size (dE h2 t2 b1 0) rfl rfl _ _ P0.out (hiS.out h2 _ _ b1 hh2 hb1) ?hs (oL _ _ _ _) ?_)
    case hs=>rw[eW _ _ _ _ hh1 hb1,eW _ _ _ _ hh2 hb1]
    intro w2 hP2
    obtain⟨f2,hf2⟩:∃f:Nat,f=0:=⟨_,rfl⟩
    have Q0:Hid (w2.heap[w.heap.size]? =some (.cells (HV h2 t2 b1 f2).toArray 184)):=by show _=_;rw[hf2];exact hP2.here
    have S2':=S2.out
    rw[←hf2]at S2'
    clear S2
    have S2:Hid _:=S2'
    clear S2'
    have Q1:Hid _:=(hP2.far (w.heap.size+1) (by omega)).trans P1.out
    have QB:Hid (Below w.heap.size w w2):=hP2.below _ _ PB.out (nQ _)
    have HCJ2:Hid (∀i,i<n - j→w2.cell? ⟨bb,oo+j+i,none⟩=some (.int .u8 ((P.drop j).getD i 0))):=fun i hi=>by
     have hne:bb≠w.heap.size:=by have:=hbb (by omega);omega
     have e:=hP2.far bb hne
     rw[←HCJ1.out i hi]
     unfold World.cell?
     rw[e]
    clear hP2 P0 P1 PB HCJ1
    generalize hk2:k1+1=k2 at*
    have hf2l:f2<64:=by omega
    have HL2:Hid (D.length+j=64*k2+f2):=by show _=_;omega
    clear hl1 hk1 hf1 hk2 hq1 hf2
    obtain⟨m,hm⟩:∃x,x=min (n - j) (64 - f2):=⟨_,rfl⟩
    have hm1:m≤n - j:=by omega
    have hm2:m≤64 - f2:=by omega
    have hm3:0<m:=by omega
    have hm4:m=n - j∨m=64 - f2:=by omega
    clear hm
    have HX:Hid (((P.drop j).take m).length=m):=by show _=_;simp[hn];omega
    have HCM:Hid (∀i,i<m→w2.cell? ⟨bb,oo+j+i,none⟩=some (.int .u8 (((P.drop j).take m).getD i 0))):=fun i hi=>by rw[HCJ2.out i (by omega),cN,if_pos hi]
    have HPUT:Hid ((HV h2 t2 b1 f2).take (9+f2)++(((P.drop j).take m).map (Value.int .u8)++(HV h2 t2 b1 f2).drop (9+f2+(((P.drop j).take m).map (Value.int .u8)).length))=HV h2 t2 (b1.take f2++((P.drop j).take m++b1.drop (f2+m))) f2):=by
     have e:=TH h2 t2 b1 f2 hh2 hb1 f2 ((P.drop j).take m) (by rw[HX.out];omega)
     rw[HX.out]at e
     exact e
    have S3:Hid (pV h0 (D++P.take (j+m)) k2 (f2+m) h2 (b1.take f2++((P.drop j).take m++b1.drop (f2+m)))):=by
     have e:=pV.copied S2.out ((P.drop j).take m) m HX.out (by omega)
     rw[List.append_assoc,←List.take_add]at e
     exact e
    obtain⟨b3,hb3⟩:∃x,b1.take f2++((P.drop j).take m++b1.drop (f2+m))=x:=⟨_,rfl⟩
    rw[hb3]at HPUT S3
    have hb3l:b3.length=64:=S3.out.blk
    generalize(P.drop j).take m=X at*
    clear hb3 S2 HCJ HCJ2
    have c73:w2.cell? ⟨w.heap.size,73,none⟩=some (.int .i64 f2):=by rw[cell_of_row _ _ _ _ _ _ Q0.out];exact nM h2 _ b1 _ hh2 hb1
    have if2:(f2:Int)<64:=by omega
    have if2':(f2:Int)≤64:=by omega
    have nf2:(f2=64)=False:=by simp;omega
    have nfi:((f2:Int)=64)=False:=by simp;omega
    have HMN:Hid (m=Nat.min (n - j) (64 - f2)):=by show m=min (n - j) (64 - f2);omega
    go_wp2_with(refine GA .u8 rfl (.tmp 17) (.tmp 18) 48 48 rfl 5 underlying48 JA w.heap.size (9+f2) (64 - f2) (64 - f2) bb (oo+j) (n - j) (cap - j) rfl rfl (HV h2 t2 b1 f2) X (HV h2 t2 b3 f2) m 184 Q0.out HX.out HMN.out HCM.out ?hfit HPUT.out ?_)
    case hfit=>rw[yV _ _ _ _ hh2 hb1];omega
    intro w3 hP3
    have hcf:(dE h2 t2 b3 f2)[73]? =some (.int .i64 f2):=nM h2 _ b3 _ hh2 hb3l
    have R0:=hP3.here
    have c73':w3.cell? ⟨w.heap.size,73,none⟩=some (.int .i64 f2):=by rw[cell_of_row _ _ _ _ _ _ R0];exact hcf
    have f73':w3.frozen? ⟨w.heap.size,73,none⟩=false:=frozen_of_row _ _ _ _ _ R0
    have HR0:Hid (w3.heap[w.heap.size]? =some (.cells (dE h2 t2 b3 f2) 184)):=R0
    have HR1:Hid _:=(hP3.far (w.heap.size+1) (by omega)).trans Q1.out
    have HRB:Hid (Below w.heap.size w w3):=hP3.below _ _ QB.out (nQ _)
    clear hP3 R0 hcf Q0 Q1 QB c73 HPUT HCM HX
    have im:(m:Int)≤((n - j:Nat):Int):=by omega
    have im2:(m:Int)≤((cap - j:Nat):Int):=by omega
    have im3:((n - j:Nat):Int)≤((cap - j:Nat):Int):=by omega
    have HFIN:Hid ((dE h2 t2 b3 f2).setIfInBounds 73 (.int .i64 ((f2:Int)+m))=dE h2 t2 b3 ((f2+m:Nat):Int)):=by
     show _=_
     rw[Int.natCast_add]
     exact tN h2 t2 b3 f2 hh2 hb3l _
    have HU0:Hid ((w3.setCell ⟨w.heap.size,73,none⟩ (.int .i64 ((f2:Int)+m))).heap[w.heap.size]? =some (.cells (dE h2 t2 b3 ((f2+m:Nat):Int)) 184)):=by
     show _=_
     rw[←HFIN.out]
     exact heap_setCell_same _ _ _ _ _ _ HR0.out
    have HU1:Hid ((w3.setCell ⟨w.heap.size,73,none⟩ (.int .i64 ((f2:Int)+m))).heap[w.heap.size+1]? =some (.cells (dE (aA 8) 0 (aA 64) 0) 184)):=(heap_setCell_other _ _ _ _ (by simp)).trans HR1.out
    have HUB:Hid (Below w.heap.size w (w3.setCell ⟨w.heap.size,73,none⟩ (.int .i64 ((f2:Int)+m)))):=Below.setCell HRB.out (by simp) _
    by_cases hend:cap - j=m
    ·have hendp:(cap - j=m)=True:=by simp[hend]
     go_wp2
     go_roundw
     case rel=>exact⟨j+m,k2,t2,f2+m,h2,b3,_,by omega,by rw[show n - (j+m)=n - j - m by omega,show cap - (j+m)=0 by omega],fun hh=>by omega,HT2.out,S3.out,.inl (by omega),HU0.out,HU1.out,HUB.out⟩
     case measure=>simp only[lenOf];omega
    ·have hendp:(cap - j=m)=False:=by simp[hend]
     go_wp2
     go_roundw
     case rel=>exact⟨j+m,k2,t2,f2+m,h2,b3,_,by omega,by rw[show n - (j+m)=n - j - m by omega,show cap - (j+m)=cap - j - m by omega],fun hh=>by simp[Nat.add_assoc],HT2.out,S3.out,.inl (by omega),HU0.out,HU1.out,HUB.out⟩
     case measure=>simp only[lenOf];omega
   ·obtain⟨w2,rfl⟩:∃X,X=wr:=⟨_,rfl⟩
    obtain⟨h2,rfl⟩:∃X,X=h1:=⟨_,rfl⟩
    obtain⟨t2,rfl⟩:∃X,X=t1:=⟨_,rfl⟩
    obtain⟨k2,rfl⟩:∃X,X=k1:=⟨_,rfl⟩
    obtain⟨f2,rfl⟩:∃X,X=fn1:=⟨_,rfl⟩
    have hh2:=hh1
    have HT2:Hid _:=ht1
    have hq2:t2≤2000000000000:=by omega
    have S2:Hid _:=S1.out
    have HCJ2:Hid _:=HCJ.out
    have Q0:Hid (w2.heap[w.heap.size]? =some (.cells (HV h2 t2 b1 f2).toArray 184)):=M0
    have Q1:Hid _:=M1
    have QB:Hid _:=MB
    have hf2l:f2<64:=by omega
    have HL2:Hid (D.length+j=64*k2+f2):=hl1
    clear hl1 hk1 hf1 M0 M1 MB ht1 hh1
    obtain⟨m,hm⟩:∃x,x=min (n - j) (64 - f2):=⟨_,rfl⟩
    have hm1:m≤n - j:=by omega
    have hm2:m≤64 - f2:=by omega
    have hm3:0<m:=by omega
    have hm4:m=n - j∨m=64 - f2:=by omega
    clear hm
    have HX:Hid (((P.drop j).take m).length=m):=by show _=_;simp[hn];omega
    have HCM:Hid (∀i,i<m→w2.cell? ⟨bb,oo+j+i,none⟩=some (.int .u8 (((P.drop j).take m).getD i 0))):=fun i hi=>by rw[HCJ2.out i (by omega),cN,if_pos hi]
    have HPUT:Hid ((HV h2 t2 b1 f2).take (9+f2)++(((P.drop j).take m).map (Value.int .u8)++(HV h2 t2 b1 f2).drop (9+f2+(((P.drop j).take m).map (Value.int .u8)).length))=HV h2 t2 (b1.take f2++((P.drop j).take m++b1.drop (f2+m))) f2):=by
     have e:=TH h2 t2 b1 f2 hh2 hb1 f2 ((P.drop j).take m) (by rw[HX.out];omega)
     rw[HX.out]at e
     exact e
    have S3:Hid (pV h0 (D++P.take (j+m)) k2 (f2+m) h2 (b1.take f2++((P.drop j).take m++b1.drop (f2+m)))):=by
     have e:=pV.copied S2.out ((P.drop j).take m) m HX.out (by omega)
     rw[List.append_assoc,←List.take_add]at e
     exact e
    obtain⟨b3,hb3⟩:∃x,b1.take f2++((P.drop j).take m++b1.drop (f2+m))=x:=⟨_,rfl⟩
    rw[hb3]at HPUT S3
    have hb3l:b3.length=64:=S3.out.blk
    generalize(P.drop j).take m=X at*
    clear hb3 S2 HCJ HCJ2
    have c73:w2.cell? ⟨w.heap.size,73,none⟩=some (.int .i64 f2):=by rw[cell_of_row _ _ _ _ _ _ Q0.out];exact nM h2 _ b1 _ hh2 hb1
    have if2:(f2:Int)<64:=by omega
    have if2':(f2:Int)≤64:=by omega
    have nf2:(f2=64)=False:=by simp;omega
    have nfi:((f2:Int)=64)=False:=by simp;omega
    have HMN:Hid (m=Nat.min (n - j) (64 - f2)):=by show m=min (n - j) (64 - f2);omega
    go_wp2_with(refine GA .u8 rfl (.tmp 17) (.tmp 18) 48 48 rfl 5 underlying48 JA w.heap.size (9+f2) (64 - f2) (64 - f2) bb (oo+j) (n - j) (cap - j) rfl rfl (HV h2 t2 b1 f2) X (HV h2 t2 b3 f2) m 184 Q0.out HX.out HMN.out HCM.out ?hfit HPUT.out ?_)
    case hfit=>rw[yV _ _ _ _ hh2 hb1];omega
    intro w3 hP3
    have hcf:(dE h2 t2 b3 f2)[73]? =some (.int .i64 f2):=nM h2 _ b3 _ hh2 hb3l
    have R0:=hP3.here
    have c73':w3.cell? ⟨w.heap.size,73,none⟩=some (.int .i64 f2):=by rw[cell_of_row _ _ _ _ _ _ R0];exact hcf
    have f73':w3.frozen? ⟨w.heap.size,73,none⟩=false:=frozen_of_row _ _ _ _ _ R0
    have HR0:Hid (w3.heap[w.heap.size]? =some (.cells (dE h2 t2 b3 f2) 184)):=R0
    have HR1:Hid _:=(hP3.far (w.heap.size+1) (by omega)).trans Q1.out
    have HRB:Hid (Below w.heap.size w w3):=hP3.below _ _ QB.out (nQ _)
    clear hP3 R0 hcf Q0 Q1 QB c73 HPUT HCM HX
    have im:(m:Int)≤((n - j:Nat):Int):=by omega
    have im2:(m:Int)≤((cap - j:Nat):Int):=by omega
    have im3:((n - j:Nat):Int)≤((cap - j:Nat):Int):=by omega
    have HFIN:Hid ((dE h2 t2 b3 f2).setIfInBounds 73 (.int .i64 ((f2:Int)+m))=dE h2 t2 b3 ((f2+m:Nat):Int)):=by
     show _=_
     rw[Int.natCast_add]
     exact tN h2 t2 b3 f2 hh2 hb3l _
    have HU0:Hid ((w3.setCell ⟨w.heap.size,73,none⟩ (.int .i64 ((f2:Int)+m))).heap[w.heap.size]? =some (.cells (dE h2 t2 b3 ((f2+m:Nat):Int)) 184)):=by
     show _=_
     rw[←HFIN.out]
     exact heap_setCell_same _ _ _ _ _ _ HR0.out
    have HU1:Hid ((w3.setCell ⟨w.heap.size,73,none⟩ (.int .i64 ((f2:Int)+m))).heap[w.heap.size+1]? =some (.cells (dE (aA 8) 0 (aA 64) 0) 184)):=(heap_setCell_other _ _ _ _ (by simp)).trans HR1.out
    have HUB:Hid (Below w.heap.size w (w3.setCell ⟨w.heap.size,73,none⟩ (.int .i64 ((f2:Int)+m)))):=Below.setCell HRB.out (by simp) _
    by_cases hend:cap - j=m
    ·have hendp:(cap - j=m)=True:=by simp[hend]
     go_wp2
     go_roundw
     case rel=>exact⟨j+m,k2,t2,f2+m,h2,b3,_,by omega,by rw[show n - (j+m)=n - j - m by omega,show cap - (j+m)=0 by omega],fun hh=>by omega,HT2.out,S3.out,.inl (by omega),HU0.out,HU1.out,HUB.out⟩
     case measure=>simp only[lenOf];omega
    ·have hendp:(cap - j=m)=False:=by simp[hend]
     go_wp2
     go_roundw
     case rel=>exact⟨j+m,k2,t2,f2+m,h2,b3,_,by omega,by rw[show n - (j+m)=n - j - m by omega,show cap - (j+m)=cap - j - m by omega],fun hh=>by simp[Nat.add_assoc],HT2.out,S3.out,.inl (by omega),HU0.out,HU1.out,HUB.out⟩
     case measure=>simp only[lenOf];omega
  ·obtain rfl:j=n:=by omega
   rw[List.take_of_length_le (by omega)]at S1
   have HT2:Hid _:=ht1
   have N0:Hid _:=M0
   have N1:Hid _:=M1
   have NB:Hid _:=MB
   have hz0:Hid ((0:Nat)=j - j):=by show _=_;omega
   clear M0 M1 MB ht1
   go_wp2_with(first
    | refine wpLr rfl 184 _ rfl w.heap.size rfl _ (dE h1 t1 b1 fn1) _ _ N0.out underlying184 rfl (hiS.out _ _ _ _ hh1 hb1) ?_
    | refine wpPr rfl 184 _ _ rfl (w.heap.size+1) (dE h1 t1 b1 fn1) rfl rfl _ _ N1.out (hiS.out _ _ _ _ hh1 hb1) ?hs (oL _ _ _ _) ?_)
   case hs=>rw[eW _ _ _ _ hh1 hb1];rfl
   intro W9 hP9
   go_wp2
   exact bodyPost_ret (v:=.agg (dE h1 t1 b1 fn1)) (results_cell_row rfl _ _ _ _ (dE h1 t1 b1 fn1) _ _ rfl hP9.here underlying184 rfl (hiS.out _ _ _ _ hh1 hb1)) rfl ⟨k1,t1,fn1,h1,b1,rfl,HT2.out,S1.out,hk1,hP9.below _ _ NB.out (by omega)⟩
end Go.Proofs.YtgcepckaolkeoaaGreatDoor
