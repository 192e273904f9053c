import Derived.Test.YtgcepckaolkeoaaGreatDoorMZ02
namespace Go.Proofs.YtgcepckaolkeoaaGreatDoor
open Go.RowKit
open Go.Proofs.Tryz
open Go renaming heap_alloc_new → hAN, heap_alloc_old → hAO, rounds_succ → rdS, wpList_load_row → wpLr, wpQuiet_nil → wqN
open List renaming drop_succ_cons → dJ, drop_zero → dY, length_map → lU, replicate → rQ, take_succ_cons → tU, take_zero → tJ
open Nat renaming le_refl → nQ
set_option linter.unusedVariables false
structure pV (h0 D:List Int) (k fn:Nat) (h b:List Int):Prop where
 fill:fn≤64
 len:D.length=64*k+fn
 words:h=jE h0 D k
 blk:b.length=64
 same:b.take fn=D.drop (64*k)
theorem pV.start (h0 b:List Int) (hb:b.length=64):pV h0 [] 0 0 h0 b:=⟨by omega,rfl,rfl,hb,by simp⟩
theorem pV.copied {h0 D h b:List Int} {k fn:Nat} (s:pV h0 D k fn h b) (X:List Int) (n:Nat) (hX:X.length=n) (hn:fn+n≤64):pV h0 (D++X) k (fn+n) h (b.take fn++(X++b.drop (fn+n))):=by
 have hl:=s.len
 have hbl:=s.blk
 refine⟨hn,by simp[hX];omega,?_,by simp[hX];omega,?_⟩
 ·rw[AG h0 D X k (by omega)]
  exact s.words
 ·rw[List.drop_append_of_le_length (by omega),←s.same,←List.append_assoc,List.take_append_of_le_length (by simp[hX];omega),List.take_of_length_le (by simp[hX];omega)]
theorem pV.squeezed {h0 D h b:List Int} {k:Nat} (s:pV h0 D k 64 h b):pV h0 D (k+1) 0 (jL h (gQ (b.take 64)) (64*k+64) false) b:=by
 have hl:=s.len
 refine⟨by omega,by omega,?_,s.blk,?_⟩
 ·have e:(D.drop (64*k)).take 64=b.take 64:=by
   rw[←s.same,List.take_take,Nat.min_self]
  rw[jE,e,←s.words]
  rfl
 ·rw[tJ,List.drop_eq_nil_of_le (by omega)]
theorem pV.last {h0 D h b:List Int} {k fn:Nat} (s:pV h0 D k fn h b) (hk:0<fn∨k=0):jL h (gQ (b.take fn)) (64*k+fn) true=KU h0 D:=by
 have hl:=s.len
 have hf:=s.fill
 have e:vR D.length=k:=by unfold vR;omega
 unfold KU
 rw[e,s.same,s.words,hl]
theorem pV.bytes {h0 D h b:List Int} {k fn:Nat} (s:pV h0 D k fn h b) (hD:aE D):aE (b.take fn):=by rw[s.same];exact dC hD _
theorem OU (zs:List Int) (m:Nat) (hm:zs.length=m) (h64:m≤64):pF9 (rQ 16 0) 0 (aF zs) (min (m / 4+1) 16)=gQ zs:=by
 apply List.ext_getElem?
 intro i
 rw[cR _ _ _ _ _ (by simp;omega)]
 simp only[gQ,List.getElem?_map,List.getElem?_replicate]
 by_cases hi:i<16
 ·rw[List.getElem?_range hi]
  by_cases h1:i<min (m / 4+1) 16
  ·rw[if_pos (by omega)]
   rfl
  ·rw[if_neg (by omega),if_pos hi]
   simp only[Option.map_some]
   rw[zK zs i (by omega)]
 ·rw[if_neg (by omega),if_neg hi,List.getElem?_eq_none (by simp;omega)]
  rfl
theorem vX (zs:List Int):(gQ zs).length=16:=by simp[gQ]
theorem II {zs:List Int} (h:aE zs):bC (gQ zs):=by
 intro i
 unfold gQ
 simp only[List.getD_eq_getElem?_getD,List.getElem?_map]
 by_cases hi:i<16
 ·rw[List.getElem?_range hi]
  exact kR h i
 ·rw[List.getElem?_eq_none (by simp;omega)]
  exact(show fP 0 from⟨by decide,by decide⟩)
theorem aaS:prog.follows .mixedOrders=true:=by kernel_rfl
theorem ZG (a:Option Addr) (cap:Nat) (w:World):Calls prog 142 #[.slice a 0 cap] w fun e w'=>e=.returned (.int .u32 0)∧w'=w:=by
 go_enter func142,ntmps142
 go_wp2
 go_ret
 exact⟨rfl,rfl⟩
theorem adA (b o cap:Nat) (z0:Int) (w:World) (h0:0≤z0) (g0:z0≤255) (c0:w.cell? ⟨b,o,none⟩=some (.int .u8 z0)):
 Calls prog 142 #[.slice (some ⟨b,o,none⟩) 1 cap] w fun e w'=>e=.returned (.int .u32 z0)∧w'=w:=by
 have h1:bits .or .u32 0 z0=z0:=by rw[pW 0 0 z0 (by decide) h0 (by omega) (by omega) (by omega) (by decide)];omega
 go_enter func142,ntmps142
 go_wp2
 go_ret
 exact⟨rfl,rfl⟩
theorem adB (b o cap:Nat) (z0 z1:Int) (w:World) (h0:0≤z0) (g0:z0≤255) (h1:0≤z1) (g1:z1≤255) (c0:w.cell? ⟨b,o,none⟩=some (.int .u8 z0)) (c1:w.cell? ⟨b,o+1,none⟩=some (.int .u8 z1)):
 Calls prog 142 #[.slice (some ⟨b,o,none⟩) 2 cap] w fun e w'=>e=.returned (.int .u32 (z0+256*z1))∧w'=w:=by
 have e1:bits .or .u32 0 (z1*256)=z1*256:=by rw[pW 0 0 _ (by decide) (by omega) (by omega) (by omega) (by omega) (by decide)];omega
 have e0:bits .or .u32 (z1*256) z0=z0+256*z1:=by rw[vS 8 (z1*256) z0 (by decide) (by omega) (by omega) (by omega) (by omega) (by omega)];omega
 go_enter func142,ntmps142
 go_wp2
 go_ret
 exact⟨rfl,rfl⟩
theorem adC (b o cap:Nat) (z0 z1 z2:Int) (w:World) (h0:0≤z0) (g0:z0≤255) (h1:0≤z1) (g1:z1≤255) (h2:0≤z2) (g2:z2≤255) (c0:w.cell? ⟨b,o,none⟩=some (.int .u8 z0)) (c1:w.cell? ⟨b,o+1,none⟩=some (.int .u8 z1)) (c2:w.cell? ⟨b,o+2,none⟩=some (.int .u8 z2)):
 Calls prog 142 #[.slice (some ⟨b,o,none⟩) 3 cap] w fun e w'=>e=.returned (.int .u32 (z0+256*z1+65536*z2))∧w'=w:=by
 have e2:bits .or .u32 0 (z2*65536)=z2*65536:=by rw[pW 0 0 _ (by decide) (by omega) (by omega) (by omega) (by omega) (by decide)];omega
 have e1:bits .or .u32 (z2*65536) (z1*256)=z2*65536+z1*256:=vS 16 (z2*65536) (z1*256) (by decide) (by omega) (by omega) (by omega) (by omega) (by omega)
 have e0:bits .or .u32 (z2*65536+z1*256) z0=z0+256*z1+65536*z2:=by rw[vS 8 (z2*65536+z1*256) z0 (by decide) (by omega) (by omega) (by omega) (by omega) (by omega)];omega
 go_enter func142,ntmps142
 go_wp2
 go_ret
 exact⟨rfl,rfl⟩
theorem MJ (ys:List Int) (m:Nat) (hm:ys.length=m) (hy:m≤3) (hz:aE ys) (b o cap:Nat) (w:World) (hc:∀i,i<m→w.cell? ⟨b,o+i,none⟩=some (.int .u8 (ys.getD i 0))):
 Calls prog 142 #[.slice (some ⟨b,o,none⟩) m cap] w fun e w'=>e=.returned (.int .u32 (aF ys 0))∧w'=w:=by
 have b0:=hz 0
 have b1:=hz 1
 have b2:=hz 2
 match ys,hm with
 | [],hm=>subst hm;exact ZG _ _ _
 | [z0],hm=>
   subst hm
   have:=adA b o cap z0 w b0.1 b0.2 (hc 0 (by simp))
   simpa[aF]using this
 | [z0,z1],hm=>
   subst hm
   have:=adB b o cap z0 z1 w b0.1 b0.2 b1.1 b1.2 (hc 0 (by simp)) (hc 1 (by simp))
   simpa[aF]using this
 | [z0,z1,z2],hm=>
   subst hm
   have:=adC b o cap z0 z1 z2 w b0.1 b0.2 b1.1 b1.2 b2.1 b2.2 (hc 0 (by simp)) (hc 1 (by simp)) (hc 2 (by simp))
   simpa[aF]using this
 | _::_::_::_::_,hm=>simp at hm;omega
theorem FG (g off n cap:Nat) (te:TypeId) (l:List Int) (b o cap2:Nat) (zs:List Int) (w:World)
 (hg:w.heap[g]? =some (.cells (Iv .u32 l) te)) (hl:off+n≤l.length) (hn:n≤1000) (hbg:b≠g) (hz:aE zs) (hzn:zs.length≤4*n) (hpos:0<zs.length)
 (hc:∀i,i<zs.length→w.cell? ⟨b,o+i,none⟩=some (.int .u8 (zs.getD i 0))) (hcap:zs.length≤cap2) (hcap2:cap2≤9223372036854775807):
 Calls prog 130 #[.slice (some ⟨g,off,none⟩) n cap,.slice (some ⟨b,o,none⟩) zs.length cap2] w fun e w'=>
  e=.returned (.tuple #[])∧∃d,w'=(w.setRow g (Iv .u32 (pF9 l off (aF zs) (min (zs.length / 4+1) n)))).drewN d:=by
 have hwhole:zs.length / 4≤n:=by omega
 go_enter func130,ntmps130
 go_wp2
 go_loopw [10] (fun i wr=>∃k d:Nat,k≤zs.length / 4∧i=.int .i64 k∧wr=(w.setRow g (Iv .u32 (pF9 l off (aF zs) k))).drewN d) (fun i _=>zs.length / 4 - (intOf i).toNat)
 case atStart=>
  refine⟨0,0,Nat.zero_le _,rfl,?_⟩
  rw[bV,gZ w g _ _ _ hg]
  rfl
 case round=>
  obtain⟨k,d,hk,rfl,rfl⟩:=hrel
  by_cases hlt:k<zs.length / 4
  ·have d0:=hc (4*k) (by omega)
   have d1:=hc (4*k+1) (by omega)
   have d2:=hc (4*k+2) (by omega)
   have d3:=hc (4*k+3) (by omega)
   have hz0:=hz (4*k)
   have hz1:=hz (4*k+1)
   have hz2:=hz (4*k+2)
   have hz3:=hz (4*k+3)
   have hword:aF zs k=_:=rfl
   have HW:Hid (aF zs k=zs.getD (4*k) 0+256*zs.getD (4*k+1) 0+65536*zs.getD (4*k+2) 0+16777216*zs.getD (4*k+3) 0):=rfl
   clear hword
   generalize zs.getD (4*k) 0=z0 at*
   generalize zs.getD (4*k+1) 0=z1 at*
   generalize zs.getD (4*k+2) 0=z2 at*
   generalize zs.getD (4*k+3) 0=z3 at*
   have c0:(w.setRow g (Iv .u32 (pF9 l off (aF zs) k))).cell? ⟨b,o+4*k,none⟩=some (.int .u8 z0):=by rw[aY _ _ _ _ hbg];exact d0
   have c1:(w.setRow g (Iv .u32 (pF9 l off (aF zs) k))).cell? ⟨b,o+(4*k+1),none⟩=some (.int .u8 z1):=by rw[aY _ _ _ _ hbg];exact d1
   have c2:(w.setRow g (Iv .u32 (pF9 l off (aF zs) k))).cell? ⟨b,o+(4*k+2),none⟩=some (.int .u8 z2):=by rw[aY _ _ _ _ hbg];exact d2
   have c3:(w.setRow g (Iv .u32 (pF9 l off (aF zs) k))).cell? ⟨b,o+(4*k+3),none⟩=some (.int .u8 z3):=by rw[aY _ _ _ _ hbg];exact d3
   have hw:=WC z0 z1 z2 z3 hz0.1 hz0.2 hz1.1 hz1.2 hz2.1 hz2.2 hz3.1 hz3.2
   rw[←HW.out]at hw
   have HW2:Hid (_=_):=hw
   obtain⟨x0,y0⟩:=hz0
   obtain⟨x1,y1⟩:=hz1
   obtain⟨x2,y2⟩:=hz2
   obtain⟨x3,y3⟩:=hz3
   have ho:∃v,(w.setRow g (Iv .u32 (pF9 l off (aF zs) k))).cell? ⟨g,off+k,none⟩=some v:=by
    rw[eN _ _ _ _ _ _ _ hg]
    exact lK _ _ _ (by rw[aR _ _ _ _ (by omega)];omega)
   obtain⟨v,hv⟩:=ho
   have hf:(w.setRow g (Iv .u32 (pF9 l off (aF zs) k))).frozen? ⟨g,off+k,none⟩=false:=by rw[hU];exact frozen_of_row _ _ _ _ _ hg
   clear hw d0 d1 d2 d3 hc hz
   go_wp2
   refine wRh 36 aaS (by kernel_rfl) ?_
   simp only[tU,tJ,dJ,dY]
   repeat(go_big_quiet_step (fail))
   refine wqN ?_
   go_wp2
   go_roundw
   case rel=>exact⟨k+1,d+1,by omega,by go_num,by rw[HW2.out,qS,aL,bR,bJ _ _ _ _ (by omega)]⟩
   case measure=>simp[intOf];omega
  ·obtain rfl:k=zs.length / 4:=by omega
   have hmin:min (zs.length / 4+1) n=if zs.length / 4<n then zs.length / 4+1 else zs.length / 4:=by split<;>omega
   have HM:Hid (_=_):=hmin
   clear hmin
   by_cases hm:zs.length / 4<n
   ·have ho:∃v,(w.setRow g (Iv .u32 (pF9 l off (aF zs) (zs.length / 4)))).cell? ⟨g,off+zs.length / 4,none⟩=some v:=by
     rw[eN _ _ _ _ _ _ _ hg]
     exact lK _ _ _ (by rw[aR _ _ _ _ (by omega)];omega)
    obtain⟨v,hv⟩:=ho
    have hf:(w.setRow g (Iv .u32 (pF9 l off (aF zs) (zs.length / 4)))).frozen? ⟨g,off+zs.length / 4,none⟩=false:=by rw[hU];exact frozen_of_row _ _ _ _ _ hg
    have hcd:∀i,i<zs.length - 4*(zs.length / 4)→(w.setRow g (Iv .u32 (pF9 l off (aF zs) (zs.length / 4)))).cell? ⟨b,o+4*(zs.length / 4)+i,none⟩=some (.int .u8 ((zs.drop (4*(zs.length / 4))).getD i 0)):=by
     intro i hi
     rw[aY _ _ _ _ hbg]
     have:=hc (4*(zs.length / 4)+i) (by omega)
     rw[Nat.add_assoc,this]
     simp only[List.getD_eq_getElem?_getD,List.getElem?_drop]
    have HC:Hid (∀i,_):=hcd
    have HZ:Hid (aE _):=dC hz (4*(zs.length / 4))
    clear hc hz hcd
    go_wp2_with fail
    ·refine(MJ [] (zs.length - 4*(zs.length / 4)) (by simp<;>omega) (by omega) (by intro i;simp) b o 0 _ (by intro i hi;omega)).mono ?_
     rintro e w1 ⟨rfl,rfl⟩
     have hnil:zs.drop (4*(zs.length / 4))=[]:=List.drop_eq_nil_of_le (by omega)
     have hw0:aF [] 0=aF zs (zs.length / 4):=by rw[←AI zs,hnil]
     rw[hw0]
     clear hw0 hnil
     go_wp2
     go_end0
     refine⟨rfl,d,?_⟩
     rw[HM.out,if_pos hm,qS,aL,bR,bJ _ _ _ _ (by omega)]
    ·refine(MJ (zs.drop (4*(zs.length / 4))) _ (by simp) (by omega) HZ.out b (o+4*(zs.length / 4)) _ _ (by exact HC.out)).mono ?_
     rintro e w1 ⟨rfl,rfl⟩
     rw[AI]
     go_wp2
     go_end0
     refine⟨rfl,d,?_⟩
     rw[HM.out,if_pos hm,qS,aL,bR,bJ _ _ _ _ (by omega)]
   ·go_wp2
    go_end0
    exact⟨rfl,d,by rw[HM.out,if_neg hm]⟩
theorem iV (m:Nat) (g off n cap:Nat) (te:TypeId) (l:List Int) (b o cap2:Nat) (zs:List Int) (w:World) (hm:zs.length=m)
 (hg:w.heap[g]? =some (.cells (Iv .u32 l) te)) (hl:off+n≤l.length) (hn:n≤1000) (hbg:b≠g) (hz:aE zs) (hzn:m≤4*n) (hpos:0<m)
 (hc:∀i,i<m→w.cell? ⟨b,o+i,none⟩=some (.int .u8 (zs.getD i 0))) (hcap:m≤cap2) (hcap2:cap2≤9223372036854775807):
 Calls prog 130 #[.slice (some ⟨g,off,none⟩) n cap,.slice (some ⟨b,o,none⟩) m cap2] w fun e w'=>
  e=.returned (.tuple #[])∧∃d,w'=(w.setRow g (Iv .u32 (pF9 l off (aF zs) (min (m / 4+1) n)))).drewN d:=by
 subst hm
 exact FG g off n cap te l b o cap2 zs w hg hl hn hbg hz hzn hpos hc hcap hcap2
theorem D8:∀W,(zeroValue 184).run prog W=.ok (.agg (dE (aA 8) 0 (aA 64) 0)) W:=fun W=>by kernel_rfl
theorem YY:∀W,(zeroValue 177).run prog W=.ok (.agg (Iv .u32 (aA 16))) W:=fun W=>by kernel_rfl
theorem DE (g n cap:Nat) (te:TypeId) (l:List Int) (b o cap2:Nat) (w:World) (hg:w.heap[g]? =some (.cells (Iv .u32 l) te)) (hl:n≤l.length) (hn:0<n) (hcap2:cap2≤9223372036854775807):
 Calls prog 130 #[.slice (some ⟨g,0,none⟩) n cap,.slice (some ⟨b,o,none⟩) 0 cap2] w fun e w'=>e=.returned (.tuple #[])∧w'=w.setRow g (Iv .u32 (l.set 0 0)):=by
 have c0:w.cell? ⟨g,0,none⟩=some (.int .u32 (l.getD 0 0)):=aB.cell hg 0 (by omega)
 have f0:w.frozen? ⟨g,0,none⟩=false:=frozen_of_row _ _ _ _ _ hg
 have hn1:(0:Int)<n:=by omega
 have HG:Hid _:=hg
 clear hg
 go_enter func130,ntmps130
 go_wp2
 refine wp_loop_rounds 1 ?_
 rw[rdS]
 go_wp2_with fail
 refine(ZG _ _ _).mono ?_
 rintro e w1 ⟨rfl,rfl⟩
 go_wp2
 go_end0
 refine⟨rfl,?_⟩
 rw[setCell_eq_setRow _ _ _ _ _ _ _ HG.out,bR]
theorem FF (g:Nat) (te:TypeId) (b0 o cap2 f:Nat) (zs:List Int) (w:World) (hzl:zs.length=f) (hf:f≤64) (hg:w.heap[g]? =some (.cells (Iv .u32 (aA 16)) te)) (hbg:b0≠g) (hz:aE zs)
 (hc:∀i,i<f→w.cell? ⟨b0,o+i,none⟩=some (.int .u8 (zs.getD i 0))) (hcap:f≤cap2) (hcap2:cap2≤9223372036854775807):
 Calls prog 130 #[.slice (some ⟨g,0,none⟩) 16 16,.slice (some ⟨b0,o,none⟩) f cap2] w fun e w'=>e=.returned (.tuple #[])∧∃d,w'=(w.setRow g (Iv .u32 (gQ zs))).drewN d:=by
 by_cases h0:f=0
 ·subst h0
  obtain rfl:zs=[]:=List.length_eq_zero_iff.1 hzl
  refine(DE g 16 16 te (aA 16) b0 o cap2 w hg (by simp[aA]) (by decide) hcap2).mono ?_
  rintro e w' ⟨rfl,rfl⟩
  exact⟨rfl,0,rfl⟩
 ·refine(iV f g 0 16 16 te (aA 16) b0 o cap2 zs w hzl hg (by simp[aA]) (by decide) hbg hz (by omega) (by omega) hc hcap hcap2).mono ?_
  rintro e w' ⟨rfl,d,rfl⟩
  refine⟨rfl,d,?_⟩
  rw[←OU zs f hzl hf]
  rfl
def k7 (h R:List Int) (j:Nat):List Int:=(List.range j).map (lL h R)++h.drop j
theorem xS (h R:List Int) (j:Nat) (hh:h.length=8) (hj:j≤8):(k7 h R j).length=8:=by simp[k7,hh];omega
theorem KW (h R:List Int) (j:Nat) (hh:h.length=8) (hj:j<8):aK (k7 h R j) j=aK h j:=by
 simp only[aK,k7,List.getD_eq_getElem?_getD,List.getElem?_append,lU,List.length_range]
 rw[if_neg (by omega),Nat.sub_self,List.getElem?_drop,Nat.add_zero]
theorem CL (h R:List Int) (j:Nat) (hh:h.length=8) (hj:j<8):(k7 h R j).set j (lL h R j)=k7 h R (j+1):=by
 unfold k7
 rw[List.set_append,if_neg (by simp),lU,List.length_range,Nat.sub_self,List.range_succ,List.map_append,List.append_assoc]
 congr 1
 rw[List.drop_eq_getElem_cons (by omega)]
 rfl
theorem CK (h R:List Int) (hh:h.length=8):k7 h R 8=(List.range 8).map (lL h R):=by
 unfold k7
 rw[List.drop_eq_nil_of_le (by omega),List.append_nil]
set_option maxRecDepth 10000 in
set_option maxHeartbeats 2000000 in
theorem xO (h b:List Int) (t f:Nat) (last:Bool) (w:World) (hh:h.length=8) (hb:b.length=64) (h32:bC h) (hbb:aE (b.take f)) (hf:f≤64) (ht63:t+f<9223372036854775808) (ht:dU w) (Bf:List Int) (HBF:Hid (jL h (gQ (b.take f)) (t+f) last=Bf)) (hBf:Bf.length=8):
 Calls prog 120 #[.agg (dE h t b f),.bool last] w fun e w'=>e=.returned (.agg (dE Bf ((t+f:Nat):Int) b 0))∧Below w.heap.size w w':=by
 have hzv:=D8
 have hzw:=YY
 have hc8:=GK h t b f hh
 have hc73:=nM h t b f hh hb
 have HS8:Hid ((dE h t b f).setIfInBounds 8 (.int .u64 ((t:Int)+f))=dE h ((t+f:Nat):Int) b f):=by
  show _=_
  rw[Int.natCast_add]
  exact I6 h t b f hh _
 have ht0:(0:Int)≤t:=by omega
 have ht1:(t:Int)+f<9223372036854775808:=by omega
 have hfi:(f:Int)≤64:=by omega
 have HT:Hid _:=ht
 clear ht
 go_enter func120,ntmps120
 go_wp2_with fail
 obtain⟨W,hW,g0,g1,g2,hs,hB⟩:=oW w (.cells (dE h ((t+f:Nat):Int) b f) 184) (.cells (dE (aA 8) 0 (aA 64) 0) 184) (.cells (Iv .u32 (aA 16)) 177)
 rw[HS8.out,hW]
 clear hW HS8 hc8 hc73 ht0 ht1
 generalize hTdef:t+f=tt at*
 have HTD:Hid (t+f=tt):=hTdef
 clear hTdef
 have cf:W.cell? ⟨w.heap.size,73,none⟩=some (.int .i64 f):=by rw[cell_of_row _ _ _ _ _ _ g0,nM h tt b f hh hb]
 have HC:Hid (∀i,i<f→W.drew.cell? ⟨w.heap.size,9+i,none⟩=some (.int .u8 ((b.take f).getD i 0))):=fun i hi=>by
  show W.cell? _=_
  rw[cell_of_row _ _ _ _ _ _ g0,UU h tt b f hh hb i (by omega),cN,if_pos hi]
 have HZL:Hid ((b.take f).length=f):=by show _=_;simp[hb];omega
 have HM:Hid ((gQ (b.take f)).length=16∧bC (gQ (b.take f))):=⟨vX _,II hbb⟩
 have G0:Hid _:=g0
 have G1:Hid _:=g1
 have G2:Hid _:=g2
 have HB:Hid _:=hB
 clear g0 g1 g2 hB
 refine wRh 5 DK (by kernel_rfl) ?_
 simp only[tU,tJ,dJ,dY]
 repeat(go_big_quiet_step (fail))
 refine wqN ?_
 go_wp2_with fail
 refine(FF (w.heap.size+1+1) 177 w.heap.size 9 64 f (b.take f) W.drew HZL.out hf G2.out (by omega) hbb HC.out (by omega) (by decide)).mono ?_
 rintro e w1 ⟨rfl,d,hw1⟩
 generalize gQ (b.take f)=M at*
 have K0:Hid (w1.heap[w.heap.size]? =some (.cells (dE h tt b f) 184)):=by show _=_;rw[hw1];exact(cE W.drew _ _ _ (by omega)).trans G0.out
 have K1:Hid (w1.heap[w.heap.size+1]? =some (.cells (dE (aA 8) 0 (aA 64) 0) 184)):=by show _=_;rw[hw1];exact(cE W.drew _ _ _ (by omega)).trans G1.out
 have K2:Hid (aB w1 (w.heap.size+1+1) .u32 M 177):=by show aB _ _ _ _ _;rw[hw1];exact aB.put (w:=W.drew) G2.out _ d
 have KB:Hid (Below w.heap.size w w1):=by show Below _ _ _;rw[hw1];exact bDr (aO (bDr HB.out 1) _ (by omega) _) d
 have hs1:w1.heap.size=w.heap.size+1+1+1:=by rw[hw1];simpa using hs
 clear hw1 G0 G1 G2 HB HC hs cf HZL
 have hiS:Hid (∀(h':List Int) (t' f':Int),h'.length=8→(prog.info? 184).map (·.size)=some (dE h' t' b f').size):=fun h' t' f' hh'=>by rw[eW h' t' b f' hh' hb];exact yY
 go_wp2_with(refine wpLr rfl 184 _ rfl w.heap.size rfl _ (dE h tt b f) _ _ K0.out underlying184 rfl (hiS.out h tt f hh) ?_)
 obtain⟨V0,hV0⟩:∃x,sX h tt last=x:=⟨_,rfl⟩
 have HV:Hid (V0.length=16∧bC V0):=⟨by rw[←hV0,yP h tt last hh],by rw[←hV0];exact MN h32 tt last⟩
 refine(FL h b tt f last w1 hh hb (by omega) (HT.out.later KB.out (nQ _)) V0 hV0 HV.out.1).mono ?_
 rintro e w2 ⟨rfl,hb2⟩
 have L0:Hid (w2.heap[w.heap.size]? =some (.cells (dE h tt b f) 184)):=(hb2.block _ (by omega)).trans K0.out
 have L1:Hid (w2.heap[w.heap.size+1]? =some (.cells (dE (aA 8) 0 (aA 64) 0) 184)):=(hb2.block _ (by omega)).trans K1.out
 have L2:Hid (w2.heap[w.heap.size+1+1]? =some (.cells (Iv .u32 M) 177)):=(hb2.block _ (by omega)).trans K2.out
 have LB:Hid (Below w.heap.size w w2):=KB.out.trans (hb2.mono (by omega))
 have hs2:w.heap.size+1+1+1≤w2.heap.size:=by have:=hb2.size;omega
 clear hb2 K0 K1 K2 KB hs1
 have HBF2:Hid (∀R,cZ V0 M 10=R→(List.range 8).map (lL h R)=Bf):=fun R hR=>by
  rw[←HBF.out,←hR,←hV0]
  rfl
 clear HBF hV0
 have hi16:Hid (∀L:List Int,L.length=16→(prog.info? 177).map (·.size)=some (Iv .u32 L).size):=fun L hL=>by rw[aC,hL];exact xZ
 have HTN:Hid ((w2.alloc (.cells (Iv .u32 (aA 16)) 177)).heap[w2.heap.size]? =some (.cells (Iv .u32 (aA 16)) 177)):=hAN _ _
 have hz16:Hid (∀L:List Int,L.length=16→(Iv .u32 (aA 16)).size=(Iv .u32 L).size):=fun L hL=>by rw[aC,aC,hL];rfl
 go_wp2_with(refine wpPr rfl 177 _ _ rfl w2.heap.size (Iv .u32 V0) rfl rfl _ _ HTN.out (hi16.out V0 HV.out.1) (hz16.out V0 HV.out.1) (aH _ _) ?_)
 intro w3 hP3
 have M0:=(hP3.far w.heap.size (by omega)).trans ((hAO w2 (.cells (Iv .u32 (aA 16)) 177) (by omega)).trans L0.out)
 have M1:=(hP3.far (w.heap.size+1) (by omega)).trans ((hAO w2 (.cells (Iv .u32 (aA 16)) 177) (by omega)).trans L1.out)
 have M2:=(hP3.far (w.heap.size+1+1) (by omega)).trans ((hAO w2 (.cells (Iv .u32 (aA 16)) 177) (by omega)).trans L2.out)
 have M3:=hP3.here
 have MB:Below w.heap.size w w3:=hP3.below _ _ (LB.out.alloc (by omega) _) (by omega)
 clear hP3 HTN L0 L1 L2 LB
 generalize w2.heap.size=gv at*
 have N0:Hid _:=M0
 have N1:Hid _:=M1
 have N2:Hid _:=M2
 have N3:Hid _:=M3
 have NB:Hid _:=MB
 clear M0 M1 M2 M3 MB
 go_wp2_with fail
 go_loopw [25] (fun i wr=>∃k:Nat,k≤10∧i=.int .i64 k∧wr.heap[w.heap.size]? =some (.cells (dE h tt b f) 184)∧wr.heap[w.heap.size+1]? =some (.cells (dE (aA 8) 0 (aA 64) 0) 184)∧wr.heap[w.heap.size+1+1]? =some (.cells (Iv .u32 M) 177)∧wr.heap[gv]? =some (.cells (Iv .u32 (cZ V0 M k)) 177)∧Below w.heap.size w wr) (fun i _=>10 - (intOf i).toNat)
 case atStart=>exact⟨0,by omega,rfl,N0.out,N1.out,N2.out,N3.out,NB.out⟩
 case round=>
  obtain⟨k,hk,rfl,M0,M1,M2,M3,MB⟩:=hrel
  clear N0 N1 N2 N3 NB
  by_cases hlt:k<10
  ·have HL:Hid (∀L,cZ V0 M k=L→cZ V0 M (k+1)=jH L M k 8):=fun L hL=>by rw[cZ,hL]
   have hLl:(cZ V0 M k).length=16:=by rw[jQ,HV.out.1]
   have hLa:Hid (bC (cZ V0 M k)):=rN HV.out.2 M k
   have HLN:=HL.out _ rfl
   generalize cZ V0 M k=L at*
   have HLN':Hid (∀x,x=jH L M k 8→cZ V0 M (k+1)=x):=fun x hx=>by rw[hx,HLN]
   clear HL HLN
   have hgl:=(Array.getElem?_eq_some_iff.1 M3).1
   have N0:Hid _:=M0
   have N1:Hid _:=M1
   have N2:Hid _:=M2
   have N3:Hid _:=M3
   have NB:Hid _:=MB
   clear M0 M1 M2 M3 MB
   go_wp2_with(first
    | refine wpLr rfl 177 _ rfl gv rfl _ (Iv .u32 L) _ _ N3.out underlying177 rfl (hi16.out L hLl) ?_
    | refine wpLr rfl 177 _ rfl (w.heap.size+1+1) rfl _ (Iv .u32 M) _ _ N2.out underlying177 rfl (hi16.out M HM.out.1) ?_)
   obtain⟨X,hX⟩:∃x,jH L M k 8=x:=⟨_,rfl⟩
   have hXl:X.length=16:=by rw[←hX,jX,hLl]
   have HX:Hid (cZ V0 M (k+1)=X):=HLN'.out X hX.symm
   refine(BK L M k wr hLl hLa.out HM.out.1 HM.out.2 hlt (HT.out.later NB.out (nQ _)) X (fun y e=>e.symm.trans hX)).mono ?_
   rintro e w4 ⟨rfl,hb4⟩
   have P0:Hid _:=(hb4.block w.heap.size (by have:=NB.out.size;have:=(Array.getElem?_eq_some_iff.1 N1.out).1;omega)).trans N0.out
   have P1:Hid _:=(hb4.block (w.heap.size+1) (Array.getElem?_eq_some_iff.1 N1.out).1).trans N1.out
   have P2:Hid _:=(hb4.block (w.heap.size+1+1) (Array.getElem?_eq_some_iff.1 N2.out).1).trans N2.out
   have P3:Hid _:=(hb4.block gv hgl).trans N3.out
   have PB:Hid (Below w.heap.size w w4):=NB.out.trans (hb4.mono NB.out.size)
   clear hb4 N0 N1 N2 N3 NB hX HLN'
   go_wp2_with(refine wpPr rfl 177 _ _ rfl gv (Iv .u32 X) rfl rfl _ _ P3.out (hi16.out X hXl) ?hs (aH _ _) ?_)
   case hs=>rw[aC,aC,hLl,hXl]
   intro w5 hP5
   have T0:Hid _:=(hP5.far w.heap.size (by omega)).trans P0.out
   have T1:Hid _:=(hP5.far (w.heap.size+1) (by omega)).trans P1.out
   have T2:Hid _:=(hP5.far (w.heap.size+1+1) (by omega)).trans P2.out
   have T3:Hid _:=hP5.here
   have TB:Hid (Below w.heap.size w w5):=hP5.below _ _ PB.out (by omega)
   clear hP5 P0 P1 P2 P3 PB
   go_wp2
   go_roundw
   case rel=>exact⟨k+1,by omega,by go_num,T0.out,T1.out,T2.out,by rw[HX.out];exact T3.out,TB.out⟩
   case measure=>simp[intOf];omega
  ·obtain rfl:k=10:=by omega
   have hRl:(cZ V0 M 10).length=16:=by rw[jQ,HV.out.1]
   obtain⟨R,hR⟩:∃x,cZ V0 M 10=x:=⟨_,rfl⟩
   have HBF3:Hid ((List.range 8).map (lL h R)=Bf):=HBF2.out R hR
   rw[hR]at M3 hRl
   clear hR HBF2
   have N0:Hid _:=M0
   have N1:Hid _:=M1
   have N3:Hid _:=M3
   have NB:Hid _:=MB
   clear M0 M1 M2 M3 MB
   have NF:Hid (wr.heap[w.heap.size]? =some (.cells (dE (k7 h R 0) tt b f) 184)):=N0.out
   obtain⟨WR,rfl⟩:∃X,X=wr:=⟨_,rfl⟩
   go_wp2_with fail
   go_loopw [33] (fun i wr=>∃j:Nat,j≤8∧i=.int .i64 j∧wr.heap[w.heap.size]? =some (.cells (dE (k7 h R j) tt b f) 184)∧wr.heap[w.heap.size+1]? =some (.cells (dE (aA 8) 0 (aA 64) 0) 184)∧wr.heap[gv]? =some (.cells (Iv .u32 R) 177)∧Below w.heap.size w wr) (fun i _=>8 - (intOf i).toNat)
   case atStart=>exact⟨0,by omega,rfl,NF.out,N1.out,N3.out,NB.out⟩
   case round=>
    obtain⟨j,hj,rfl,M0,M1,M3,MB⟩:=hrel
    clear N0 N1 N3 NB NF
    have hFl:=xS h R j hh hj
    by_cases hlt:j<8
    ·have HFS:Hid (∀x,x=lL h R j→(k7 h R j).set j x=k7 h R (j+1)):=fun x hx=>by rw[hx,CL h R j hh hlt]
     have HFA:Hid (lL h R j=xr (aK h j) (xr (aK R j) (aK R (j+8)))):=rfl
     have cs:wr.cell? ⟨w.heap.size,j,none⟩=some (.int .u32 (aK h j)):=by rw[cell_of_row _ _ _ _ _ _ M0,CU _ tt b f hFl j hlt,KW h R j hh hlt]
     have fs:wr.frozen? ⟨w.heap.size,j,none⟩=false:=frozen_of_row _ _ _ _ _ M0
     have c0:wr.cell? ⟨gv,j,none⟩=some (.int .u32 (aK R j)):=aB.cell (show aB wr gv .u32 R _ from M3) j (by omega)
     have c8:wr.cell? ⟨gv,j+8,none⟩=some (.int .u32 (aK R (j+8))):=aB.cell (show aB wr gv .u32 R _ from M3) (j+8) (by omega)
     generalize k7 h R j=F at*
     generalize lL h R j=fx at*
     generalize aK h j=x at*
     generalize aK R j=y at*
     generalize aK R (j+8)=z at*
     have i8:(j:Int)+8<16:=by omega
     have N0:Hid _:=M0
     have N1:Hid _:=M1
     have N3:Hid _:=M3
     have NB:Hid _:=MB
     clear M0 M1 M3 MB
     go_wp2_with fail
     refine wRh 15 DK (by kernel_rfl) ?_
     simp only[tU,tJ,dJ,dY]
     repeat(go_big_quiet_step (fail))
     refine wqN ?_
     go_wp2_with fail
     go_roundw
     case rel=>
      refine⟨j+1,by omega,by go_num,?_,?_,?_,?_⟩
      ·rw[←HFS.out (xr x (xr y z)) HFA.out.symm,←zX F tt b f hFl j hlt]
       exact heap_setCell_same _ _ _ _ _ _ N0.out
      ·exact(heap_setCell_other _ _ _ _ (by simp)).trans N1.out
      ·exact(heap_setCell_other _ _ _ _ (by simp;omega)).trans N3.out
      ·exact bDr (Below.setCell NB.out (by simp) _) 1
     case measure=>simp[intOf];omega
    ·obtain rfl:j=8:=by omega
     rw[CK h R hh,HBF3.out]at M0
     have hS:Hid ((dE Bf tt b f).setIfInBounds 73 (.int .i64 0)=dE Bf tt b 0):=tN Bf tt b f hBf hb 0
     have N0:Hid _:=M0
     have N1:Hid _:=M1
     have NB:Hid _:=MB
     have c73:∃v,wr.cell? ⟨w.heap.size,73,none⟩=some v:=⟨_,by rw[cell_of_row _ _ _ _ _ _ M0,nM Bf tt b f hBf hb]⟩
     obtain⟨v73,hv73⟩:=c73
     have f73:wr.frozen? ⟨w.heap.size,73,none⟩=false:=frozen_of_row _ _ _ _ _ M0
     clear M0 M1 M3 MB HBF3
     have T0:Hid ((wr.setCell ⟨w.heap.size,73,none⟩ (.int .i64 0)).heap[w.heap.size]? =some (.cells (dE Bf tt b 0) 184)):=by
      show _=_
      rw[←hS.out]
      exact heap_setCell_same _ _ _ _ _ _ N0.out
     have T1:Hid ((wr.setCell ⟨w.heap.size,73,none⟩ (.int .i64 0)).heap[w.heap.size+1]? =some (.cells (dE (aA 8) 0 (aA 64) 0) 184)):=by
      show _=_
      rw[heap_setCell_other _ _ _ _ (by simp)]
      exact N1.out
     have TB:Hid (Below w.heap.size w (wr.setCell ⟨w.heap.size,73,none⟩ (.int .i64 0))):=Below.setCell NB.out (by simp) _
     go_wp2_with(first
      | refine wpLr rfl 184 _ rfl w.heap.size rfl _ (dE Bf tt b 0) _ _ T0.out underlying184 rfl (hiS.out Bf tt 0 hBf) ?_
      | refine wpPr rfl 184 _ _ rfl (w.heap.size+1) (dE Bf tt b 0) rfl rfl _ _ T1.out (hiS.out Bf tt 0 hBf) ?hs (oL _ _ _ _) ?_)
     case hs=>rw[eW _ _ _ _ hBf hb];rfl
     intro W9 hP9
     go_wp2
     exact bodyPost_ret (v:=.agg (dE Bf tt b 0)) (results_cell_row rfl _ _ _ _ (dE Bf tt b 0) _ _ rfl hP9.here underlying184 rfl (hiS.out Bf tt 0 hBf)) rfl ⟨by rw[HTD.out],hP9.below _ _ TB.out (by omega)⟩
end Go.Proofs.YtgcepckaolkeoaaGreatDoor
