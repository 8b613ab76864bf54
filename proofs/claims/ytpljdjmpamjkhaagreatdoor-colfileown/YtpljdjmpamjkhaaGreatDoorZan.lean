/- A reader of bytes in a block of its own: its state, what stays beside it; refuse, end, whole, numberWithin. Contracts: numberWithin, packed. Readers that go on: what the state says of the whole; appending whole numbers and numbers. Contracts: each, steps. Contracts: runs. Contracts: rising. Contracts: places. Contracts: heights, list. -/
import Derived.Test.YtpljdjmpamjkhaaGreatDoorZac
import Derived.Test.YtpljdjmpamjkhaaGreatDoorZad
import Derived.Test.YtpljdjmpamjkhaaGreatDoorZaf
import Derived.Test.YtpljdjmpamjkhaaGreatDoorZam
set_option linter.unusedVariables false
set_option linter.unusedSimpArgs false
set_option maxRecDepth 100000
set_option maxHeartbeats 4000000
namespace Go.Proofs.YtpljdjmpamjkhaaGreatDoor
open Go.RowKit Go.Lib
theorem heap_setC {W:World} {p T:Nat} {c:Array Value} {fz:Nat×Nat} (h:W.heap[p]?=some (.cells c T fz)) (i:Nat) (v:Value):(W.setCell ⟨p,i,none⟩ v).heap[p]?=some (.cells (c.setIfInBounds i v) T fz):=by
 rw [Sort.setCell_eq]
 simp [Sort.mapBlock,Array.getElem?_modify,h,Sort.onCells]
def StC (T:Nat) (W:World) (p:Nat) (b:List Nat) (f:Nat):Prop :=
 ∃ g off cap,W.heap[p]?=some (.cells #[.slice (some ⟨g,off,none⟩) b.length cap,.int .i64 (f:Int)] T (0,0))/\g<p/\b.length<=cap/\cap<=maxLen/\Bs b /\
  ∀ j (h:j<b.length),W.cell? ⟨g,off+j,none⟩=some (.int .u8 (b[j]:Int))
theorem StC.bs {T:Nat} {W:World} {p:Nat} {b:List Nat} {f:Nat} (h:StC T W p b f):Bs b:=by obtain ⟨_,_,_,_,_,_,_,h,_⟩:=h;exact h
theorem StC.lt {T:Nat} {W:World} {p:Nat} {b:List Nat} {f:Nat} (h:StC T W p b f):p<W.heap.size:=by obtain ⟨_,_,_,h,_⟩:=h;exact (Array.getElem?_eq_some_iff.1 h).1
theorem StC.kept {T:Nat} {W W':World} {p B:Nat} {b:List Nat} {f:Nat} (h:StC T W p b f) (hb:Below B W W') (hp:p<B):StC T W' p b f:=by
 obtain ⟨g,off,cap,h1,h2,h3,h4,h5,h6⟩:=h
 exact ⟨g,off,cap,(hb.block p hp).trans h1,h2,h3,h4,h5,fun j hj=>(hb.cell (p:=⟨g,off+j,none⟩) (show g<B by omega)).trans (h6 j hj)⟩
theorem StC.cells {T:Nat} {W:World} {p:Nat} {b:List Nat} {f:Nat} (h:StC T W p b f) :
  ∃ g off cap,W.cell? ⟨p,0,none⟩=some (.slice (some ⟨g,off,none⟩) b.length cap)/\W.cell? ⟨p,1,none⟩=some (.int .i64 (f:Int))/\W.frozen? ⟨p,0,none⟩=false/\W.frozen? ⟨p,1,none⟩=false /\
   b.length<=cap/\cap<=9223372036854775807/\Sv W (.slice (some ⟨g,off,none⟩) b.length cap) (vals .u8 b)/\g<p /\
   (∀ f':Nat,StC T (W.setCell ⟨p,1,none⟩ (.int .i64 (f':Int))) p b f') /\
   (∀ k,k<=b.length->∃ A,(if cap=k then (some ⟨g,off,none⟩:Option Addr) else some ⟨g,off+k,none⟩)=A/\StC T (W.setCell ⟨p,0,none⟩ (.slice A (b.length-k) (cap-k))) p (b.drop k) f):=by
 have hlt:=h.lt
 obtain ⟨g,off,cap,h1,h2,h3,h4,h5,h6⟩:=h
 have hsv:Sv W (.slice (some ⟨g,off,none⟩) b.length cap) (vals .u8 b):=by
  refine ⟨_,cap,by rw [vals_length],by rw [vals_length];omega,h4,fun e=>by (cases e),fun h0=>⟨g,off,rfl,by omega,fun j x hj=>?_⟩⟩
  have hj':j<b.length:=by
   have:=(List.getElem?_eq_some_iff.1 hj).1
   rwa [vals_length] at this
  rw [vals_get hj'] at hj
  rw [h6 j hj']
  exact hj
 refine ⟨g,off,cap,by rw [cell_block h1];rfl,by rw [cell_block h1];rfl,by simp [World.frozen?,h1],by simp [World.frozen?,h1],h3,by unfold maxLen at h4;omega,hsv,h2,fun f'=>?_,fun k hk=>?_⟩
 ·refine ⟨g,off,cap,by rw [heap_setC h1];rfl,h2,h3,h4,h5,fun j hj=>?_⟩
  rw [World.cell?_of_block (w:=W) (Below.heap_setCell _ _ _ _ (show g≠p by omega))]
  exact h6 j hj
 ·obtain ⟨A,hA,hSA⟩:=Sv_drop hsv (k:=k) (by rw [vals_length];exact hk)
  refine ⟨A,hA,?_⟩
  have hl:(b.drop k).length=b.length-k:=List.length_drop
  have hbs:Bs (b.drop k):=fun x hx=>h5 x (List.mem_of_mem_drop hx)
  by_cases hck:cap=k
  ·rw [if_pos hck] at hA
   subst hA
   refine ⟨g,off,cap-k,by rw [heap_setC h1,hl];rfl,h2,by omega,by omega,hbs,fun j hj=>by omega⟩
  ·rw [if_neg hck] at hA
   subst hA
   refine ⟨g,off+k,cap-k,by rw [heap_setC h1,hl];rfl,h2,by omega,by omega,hbs,fun j hj=>?_⟩
   rw [World.cell?_of_block (w:=W) (Below.heap_setCell _ _ _ _ (show g≠p by omega)),Nat.add_assoc,h6 (k+j) (by omega)]
   simp
theorem refuse_anyC {w:World} {p f:Nat} {b:List Nat} (h:StC 333 w p b f) (e:Nat) :
  Calls Tryz.prog 310 #[.pointer (some ⟨p,0,none⟩),.int .i64 (e:Int)] w fun r w'=>r=.returned (.tuple #[])/\StC 333 w' p b (orf f e)/\Fr p w.heap.size w w':=by
 have HS:=hidden h
 obtain ⟨g,off,cap,h0,h1,h2,h3,h4,h5,h6,h7,h8,h9⟩:=h.cells
 have H8:=hidden (h8 e)
 have HF:=hidden ((Fr.refl p w.heap.size w).set 1 (.int .i64 (e:Int)))
 clear h h6 h8 h9
 by_cases hf:((f:Int)==0)=true
 ·have hf':f=0:=by simpa using hf
  have HO:Hid (orf f e=e):=by show _=_;unfold orf;rw [if_pos hf']
  clear hf'
  go_enter Tryz.func310,Tryz.ntmps310
  go_wp2_with fail
  go_end0
  rw [HO.out]
  exact ⟨rfl,H8.out,HF.out⟩
 ·have hff:((f:Int)==0)=false:=by simpa using hf
  have HO:Hid (orf f e=f):=by show _=_;unfold orf;rw [if_neg (fun e=>hf (by simp [e]))]
  clear hf
  go_enter Tryz.func310,Tryz.ntmps310
  go_wp2_with fail
  go_end0
  rw [HO.out]
  exact ⟨rfl,HS.out,Fr.refl _ _ _⟩
theorem end_any {w:World} {p f:Nat} {b:List Nat} (h:StC 333 w p b f) :
  Calls Tryz.prog 308 #[.pointer (some ⟨p,0,none⟩)] w fun r w'=>r=.returned (.tuple #[])/\StC 333 w' p b (orf f (if b.length=0 then 0 else 32))/\Fr p w.heap.size w w':=by
 have HS:=hidden h
 obtain ⟨g,off,cap,h0,h1,h2,h3,h4,h5,h6,h7,h8,h9⟩:=h.cells
 have HR:=hidden (refuse_anyC h 32)
 clear h h6 h8 h9
 by_cases hp:(b.length:Int) > 0
 ·rw [if_neg (by omega)]
  go_enter Tryz.func308,Tryz.ntmps308
  go_wp2_with fail
  refine HR.out.mono ?_
  rintro e w1 ⟨rfl,hs1,hf1⟩
  have HS1:=hidden hs1
  clear hs1
  go_wp2_with fail
  go_end0
  exact ⟨rfl,HS1.out,hf1⟩
 ·have hb0:b.length=0:=by omega
  rw [if_pos hb0]
  have HO:Hid (orf f 0=f):=by show _=_;unfold orf;split<;>simp_all
  clear hb0
  go_enter Tryz.func308,Tryz.ntmps308
  go_wp2_with fail
  go_end0
  rw [HO.out]
  exact ⟨rfl,HS.out,Fr.refl _ _ _⟩
theorem getInt_sv {w:World} {a:Option Addr} {n cap:Nat} {b:List Nat} (hb:Bs b) (h:Sv w (.slice a n cap) (vals .u8 b)) :
  Calls Tryz.prog 324 #[.slice a n cap] w fun e w'=>e=tell .i64 (unzig (gt b).1) (gt b).2.1 (gt b).2.2/\w'=w:=getInt_any (h.sl hb)
theorem whole_any {w:World} {p f:Nat} {b:List Nat} (h:StC 333 w p b f) :
  Calls Tryz.prog 320 #[.pointer (some ⟨p,0,none⟩)] w fun r w'=>r=.returned (.int .i64 (unzig (gt b).1))/\StC 333 w' p (b.drop (gt b).2.1) (orf f (gt b).2.2)/\Fr p w.heap.size w w':=by
 have HS:=hidden h
 have HB:=hidden h.bs
 obtain ⟨g,off,cap,h0,h1,h2,h3,h4,h5,h6,h7,h8,h9⟩:=h.cells
 obtain ⟨g1,g2,g3,g4⟩:=gt_form b
 have HG:=hidden (getInt_sv HB.out h6)
 have HU:=hidden (unzig_i64 g1)
 clear h h6 h8 h9 g4
 generalize gt b=x at *
 obtain ⟨n,u,c⟩:=x
 simp only at *
 unfold tell at HG
 generalize unzig n=z at *
 go_enter Tryz.func320,Tryz.ntmps320
 go_wp2_with fail
 refine HG.out.mono ?_
 rintro e w1 ⟨rfl,rfl⟩
 go_wp2_with fail
 refine (refuse_anyC HS.out c).mono ?_
 rintro e w2 ⟨rfl,hs2,hf2⟩
 obtain ⟨G,Off,Cap,k0,k1,k2,k3,k4,k5,k6,k7,k8,k9⟩:=hs2.cells
 obtain ⟨A,hA,hSA⟩:=k9 u g2
 have HSA:=hidden hSA
 have HF2:=hidden (hf2.set 0 (.slice A (b.length-u) (Cap-u)))
 clear hs2 hf2 k8 k9 k6 hSA h0 h1 h2 h3
 go_wp2_with fail
 go_ret
 exact ⟨rfl,HSA.out,HF2.out⟩
end Go.Proofs.YtpljdjmpamjkhaaGreatDoor
set_option linter.unusedVariables false
set_option linter.unusedSimpArgs false
namespace Go.Proofs.YtpljdjmpamjkhaaGreatDoor
open Go.RowKit Go.Lib
def within (lo hi v:Nat):Nat:=if v<lo∨hi<v then 0 else v
def withinF (lo hi v f:Nat):Nat:=if v<lo∨hi<v then orf f 40 else f
theorem number_anyC {w:World} {p f:Nat} {b:List Nat} (h:StC 333 w p b f) (lo hi:Nat) (hlo:lo<18446744073709551616) (hhi:hi<18446744073709551616) :
  Calls Tryz.prog 321 #[.pointer (some ⟨p,0,none⟩),.int .u64 (lo:Int),.int .u64 (hi:Int)] w fun r w'=>r=.returned (.int .u64 (within lo hi (gt b).1:Int))/\StC 333 w' p (b.drop (gt b).2.1) (withinF lo hi (gt b).1 (orf f (gt b).2.2))/\Fr p w.heap.size w w':=by
 have HS:=hidden h
 have HB:=hidden h.bs
 obtain ⟨g,off,cap,h0,h1,h2,h3,h4,h5,h6,h7,h8,h9⟩:=h.cells
 obtain ⟨g1,g2,g3,g4⟩:=gt_form b
 have HG:=hidden (get_sv HB.out h6)
 clear h h6 h8 h9 g4
 generalize gt b=x at *
 obtain ⟨n,u,c⟩:=x
 simp only at *
 unfold tell at HG
 by_cases hb:n<lo∨hi<n
 ·have HW:Hid (within lo hi n=0/\withinF lo hi n (orf f c)=orf (orf f c) 40):=⟨if_pos hb,if_pos hb⟩
  by_cases hl:(n:Int)<(lo:Int)
  ·clear hb
   go_enter Tryz.func321,Tryz.ntmps321
   go_wp2_with fail
   refine HG.out.mono ?_
   rintro e w1 ⟨rfl,rfl⟩
   go_wp2_with fail
   refine (refuse_anyC HS.out c).mono ?_
   rintro e w2 ⟨rfl,hs2,hf2⟩
   obtain ⟨G,Off,Cap,k0,k1,k2,k3,k4,k5,k6,k7,k8,k9⟩:=hs2.cells
   obtain ⟨A,hA,hSA⟩:=k9 u g2
   have HSA:=hidden hSA
   have HF2:=hidden (hf2.set 0 (.slice A (b.length-u) (Cap-u)))
   clear hs2 hf2 k8 k9 k6 hSA h0 h1 h2 h3
   go_wp2_with fail
   refine (refuse_anyC HSA.out 40).mono ?_
   rintro e w3 ⟨rfl,hs3,hf3⟩
   have HS3:=hidden hs3
   have HF3:=hidden (HF2.out.trans (hf3.mono HF2.out.size))
   clear hs3 hf3
   go_wp2_with fail
   go_ret
   rw [HW.out.1,HW.out.2]
   exact ⟨rfl,HS3.out,HF3.out⟩
  ·have hh:(n:Int) > (hi:Int):=by omega
   clear hb
   go_enter Tryz.func321,Tryz.ntmps321
   go_wp2_with fail
   refine HG.out.mono ?_
   rintro e w1 ⟨rfl,rfl⟩
   go_wp2_with fail
   refine (refuse_anyC HS.out c).mono ?_
   rintro e w2 ⟨rfl,hs2,hf2⟩
   obtain ⟨G,Off,Cap,k0,k1,k2,k3,k4,k5,k6,k7,k8,k9⟩:=hs2.cells
   obtain ⟨A,hA,hSA⟩:=k9 u g2
   have HSA:=hidden hSA
   have HF2:=hidden (hf2.set 0 (.slice A (b.length-u) (Cap-u)))
   clear hs2 hf2 k8 k9 k6 hSA h0 h1 h2 h3
   go_wp2_with fail
   refine (refuse_anyC HSA.out 40).mono ?_
   rintro e w3 ⟨rfl,hs3,hf3⟩
   have HS3:=hidden hs3
   have HF3:=hidden (HF2.out.trans (hf3.mono HF2.out.size))
   clear hs3 hf3
   go_wp2_with fail
   go_ret
   rw [HW.out.1,HW.out.2]
   exact ⟨rfl,HS3.out,HF3.out⟩
 ·have HW:Hid (within lo hi n=n/\withinF lo hi n (orf f c)=orf f c):=⟨if_neg hb,if_neg hb⟩
  have hl:¬ (n:Int)<(lo:Int):=by omega
  have hh:¬ (n:Int) > (hi:Int):=by omega
  clear hb
  go_enter Tryz.func321,Tryz.ntmps321
  go_wp2_with fail
  refine HG.out.mono ?_
  rintro e w1 ⟨rfl,rfl⟩
  go_wp2_with fail
  refine (refuse_anyC HS.out c).mono ?_
  rintro e w2 ⟨rfl,hs2,hf2⟩
  obtain ⟨G,Off,Cap,k0,k1,k2,k3,k4,k5,k6,k7,k8,k9⟩:=hs2.cells
  obtain ⟨A,hA,hSA⟩:=k9 u g2
  have HSA:=hidden hSA
  have HF2:=hidden (hf2.set 0 (.slice A (b.length-u) (Cap-u)))
  clear hs2 hf2 k8 k9 k6 hSA h0 h1 h2 h3
  go_wp2_with fail
  go_ret
  rw [HW.out.1,HW.out.2]
  exact ⟨rfl,HSA.out,HF2.out⟩
def pkL (n w:Nat) (b:List Nat):List Nat:=if b.length<by8 (n*w) then [] else unR (b.take (by8 (n*w))) n w
def pkB (n w:Nat) (b:List Nat):List Nat:=if b.length<by8 (n*w) then b else b.drop (by8 (n*w))
def pkF (n w:Nat) (b:List Nat) (f:Nat):Nat :=
 if b.length<by8 (n*w) then orf f 30 else orf (orf f (if (b.drop (by8 (n*w))).length=0 then 0 else 32)) (unE (b.take (by8 (n*w))) n w)
theorem vals_take (k:IntKind) (l:List Nat) (n:Nat):vals k (l.take n)=(vals k l).take n:=by simp [vals,List.map_take]
theorem packed_any {w:World} {p f:Nat} {b:List Nat} (h:StC 333 w p b f) (n ww:Nat) (hn:n<=256) (hww:ww<=64) :
  Calls Tryz.prog 323 #[.pointer (some ⟨p,0,none⟩),.int .i64 (n:Int),.int .i64 (ww:Int)] w fun r w'=>(∃ v,r=.returned v/\OwnU w' w.heap.size v (pkL n ww b))/\StC 333 w' p (pkB n ww b) (pkF n ww b f)/\Fr p w.heap.size w w':=by
 have HS:=hidden h
 have HB:=hidden h.bs
 have hlt:=h.lt
 obtain ⟨g,off,cap,h0,h1,h2,h3,h4,h5,h6,h7,h8,h9⟩:=h.cells
 have hc:n*ww<=16384:=Nat.le_trans (Nat.mul_le_mul hn hww) (by omega)
 have hmul:(n:Int)*(ww:Int)=((n*ww:Nat):Int):=by simp
 have hby2:(((n*ww:Nat):Int)+8-1) / 8=((by8 (n*ww):Nat):Int):=by unfold by8;omega
 have hbl:by8 (n*ww)<=2048:=by unfold by8;omega
 have HL:Hid (pkL n ww b=if b.length<by8 (n*ww) then [] else unR (b.take (by8 (n*ww))) n ww):=rfl
 have HBB:Hid (pkB n ww b=if b.length<by8 (n*ww) then b else b.drop (by8 (n*ww))):=rfl
 have HFF:Hid (pkF n ww b f=if b.length<by8 (n*ww) then orf f 30 else orf (orf f (if (b.drop (by8 (n*ww))).length=0 then 0 else 32)) (unE (b.take (by8 (n*ww))) n ww)):=rfl
 have HSV:=hidden h6
 clear h h6 h8 h9
 generalize by8 (n*ww)=L at *
 generalize n*ww=c at *
 generalize pkL n ww b=RL at *
 generalize pkB n ww b=RB at *
 generalize pkF n ww b f=RF at *
 by_cases hshort:(b.length:Int)<(L:Int)
 ·have hs':b.length<L:=by omega
  rw [if_pos hs'] at HL HBB HFF
  clear hs'
  go_enter Tryz.func323,Tryz.ntmps323
  go_wp2_with fail
  refine (refuse_anyC HS.out 30).mono ?_
  rintro e w1 ⟨rfl,hs1,hf1⟩
  have HS1:=hidden hs1
  have HF1:=hidden hf1
  clear hs1 hf1
  go_wp2_with fail
  go_ret
  rw [HL.out,HBB.out,HFF.out]
  exact ⟨⟨_,rfl,OwnU.nil _ _⟩,HS1.out,HF1.out⟩
 ·have hs':¬ b.length<L:=by omega
  rw [if_neg hs'] at HL HBB HFF
  have HTK:=hidden (HSV.out.take (k:=L) (by rw [vals_length];omega))
  rw [← vals_take] at HTK
  have HBT:Hid (Bs (b.take L)):=fun x hx=>HB.out x (List.mem_of_mem_take hx)
  obtain ⟨g',off',cap',k0,k1,k2,k3,k4,k5,k6,k7,k8,k9⟩:=HS.out.cells
  rw [h0] at k0
  cases k0
  obtain ⟨A,hA,hSA⟩:=k9 L (by omega)
  have HSA:=hidden hSA
  have HF2:=hidden ((Fr.refl p w.heap.size w).set 0 (.slice A (b.length-L) (cap-L)))
  clear hs' hSA k9 k8 k6 k1 k2 k3 k4 k5 k7
  go_enter Tryz.func323,Tryz.ntmps323
  go_wp2_with fail
  refine (end_any HSA.out).mono ?_
  rintro e w3 ⟨rfl,hs3,hf3⟩
  have HS3:=hidden hs3
  have hFr3:=HF2.out.trans (hf3.mono HF2.out.size)
  have HF3:=hidden hFr3
  have hz3:=hFr3.size
  have HTK3:Hid (Sv w3 (.slice (some ⟨g,off,none⟩) L cap) (vals .u8 (b.take L))):=hidden (by
   obtain ⟨a',c',e1,e2,e3,e4,e5⟩:=HTK.out
   refine ⟨a',c',e1,e2,e3,e4,fun hp=>?_⟩
   obtain ⟨G,O,f1,f2,f3⟩:=e5 hp
   simp only [Value.slice.injEq] at e1
   rw [← e1.1] at f1
   cases f1
   refine ⟨g,off,e1.1.symm,by omega,fun j x hj=>?_⟩
   rw [World.cell?_of_block (w:=w) (hFr3.block g (by omega) (by omega))]
   exact f3 j x hj)
  clear hs3 hf3 hFr3 h0 h1 h2 h3
  go_wp2_with fail
  refine (unpack_anyC HTK3.out.sx HBT.out (n:Int) (ww:Int)).mono ?_
  rintro e w4 ⟨v4,rfl,ho4,hb4⟩
  have HO4:=hidden ho4
  have hz4:=hb4.size
  have HS4:=hidden (HS3.out.kept hb4 (by omega))
  have HF4:=hidden (HF3.out.trans (Fr.of_below (hb4.mono hz3)))
  clear ho4 hb4
  go_wp2_with fail
  refine (refuse_anyC HS4.out _).mono ?_
  rintro e w5 ⟨rfl,hs5,hf5⟩
  have HS5:=hidden hs5
  have HO5:Hid (OwnU w5 w.heap.size v4 (unR (b.take L) n ww)):=hidden (by
   have h1:OwnU w4 w.heap.size v4 (unR (b.take L) n ww):=by
    obtain ⟨q1,q2⟩:=HO4.out
    refine ⟨q1,?_⟩
    rcases q2 with q | ⟨a1,a2,a3,a4,a5,a6⟩
    ·exact Or.inl q
    ·exact Or.inr ⟨a1,a2,a3,a4,Nat.le_trans hz3 a5,a6⟩
   exact hf5.own h1 hlt)
  have HF5:=hidden (HF4.out.trans (hf5.mono (by omega)))
  clear hs5 hf5
  go_wp2_with fail
  go_ret
  rw [HL.out,HBB.out,HFF.out]
  exact ⟨⟨_,rfl,HO5.out⟩,HS5.out,HF5.out⟩
end Go.Proofs.YtpljdjmpamjkhaaGreatDoor
set_option linter.unusedVariables false
set_option linter.unusedSimpArgs false
namespace Go.Proofs.YtpljdjmpamjkhaaGreatDoor
open Go.RowKit Go.Lib
def Goes (D:Except Nat (List Int×List Nat)) (K:List Nat->Except Nat (List Int×List Nat)) (b:List Nat) (f:Nat):Prop:=(f=0->D=K b)/\(f≠0->D=.error f)
theorem Goes.wh {D:Except Nat (List Int×List Nat)} {g:Int->List Nat->Except Nat (List Int×List Nat)} {b:List Nat} {f:Nat} (h:Goes D (bindR wh g) b f):Goes D (g (unzig (gt b).1)) (b.drop (gt b).2.1) (orf f (gt b).2.2):=by
 obtain ⟨h1,h2⟩:=h
 by_cases hf:f=0
 ·subst hf
  have h3:=h1 rfl
  rw [orf_zero]
  unfold bindR Go.Proofs.YtpljdjmpamjkhaaGreatDoor.wh at h3
  refine ⟨fun e=>?_,fun e=>?_⟩
  ·rw [if_pos e] at h3
   exact h3
  ·rw [if_neg e] at h3
   exact h3
 ·rw [orf_keep hf]
  exact ⟨fun e=>absurd e hf,h2⟩
theorem Goes.num {D:Except Nat (List Int×List Nat)} {C:Nat->Prop} [DecidablePred C] {g:Nat->List Nat->Except Nat (List Int×List Nat)} {lo hi:Nat} {b:List Nat} {f:Nat} (hC:∀ v,C v↔(v<lo∨hi<v))
  (h:Goes D (bindR num (fun k=>if C k then (fun _=>.error 40) else g k)) b f):Goes D (g (within lo hi (gt b).1)) (b.drop (gt b).2.1) (withinF lo hi (gt b).1 (orf f (gt b).2.2)):=by
 obtain ⟨h1,h2⟩:=h
 unfold within withinF
 by_cases hf:f=0
 ·subst hf
  have h3:=h1 rfl
  rw [orf_zero]
  unfold bindR Go.Proofs.YtpljdjmpamjkhaaGreatDoor.num at h3
  by_cases he:(gt b).2.2=0
  ·rw [if_pos he] at h3
   simp only at h3
   by_cases hc:(gt b).1<lo∨hi<(gt b).1
   ·rw [if_pos ((hC _).2 hc)] at h3
    rw [if_pos hc,if_pos hc,he,orf_zero]
    exact ⟨fun e=>by omega,fun _=>h3⟩
   ·rw [if_neg (fun e=>hc ((hC _).1 e))] at h3
    rw [if_neg hc,if_neg hc,he]
    exact ⟨fun _=>h3,fun e=>absurd rfl e⟩
  ·rw [if_neg he] at h3
   have h4:(if (gt b).1<lo∨hi<(gt b).1 then orf (gt b).2.2 40 else (gt b).2.2)=(gt b).2.2:=by
    split
    ·exact orf_keep he _
    ·rfl
   rw [h4]
   exact ⟨fun e=>absurd e he,fun _=>h3⟩
 ·have h4:(if (gt b).1<lo∨hi<(gt b).1 then orf (orf f (gt b).2.2) 40 else orf f (gt b).2.2)=f:=by
   rw [orf_keep hf,orf_keep hf]
   split<;>rfl
  rw [h4]
  exact ⟨fun e=>absurd e hf,h2⟩
theorem Goes.pkd {D:Except Nat (List Int×List Nat)} {n w:Nat} {g:List Nat->List Nat->Except Nat (List Int×List Nat)} {b:List Nat} {f:Nat} (h:Goes D (bindR (pkd n w) g) b f):Goes D (g (pkL n w b)) (pkB n w b) (pkF n w b f):=by
 obtain ⟨h1,h2⟩:=h
 unfold pkL pkB pkF
 by_cases hf:f=0
 ·subst hf
  have h3:=h1 rfl
  rw [orf_zero,orf_zero]
  unfold bindR Go.Proofs.YtpljdjmpamjkhaaGreatDoor.pkd at h3
  by_cases hs:b.length<by8 (n*w)
  ·rw [if_pos hs] at h3
   rw [if_pos hs,if_pos hs,if_pos hs]
   exact ⟨fun e=>by omega,fun _=>h3⟩
  ·rw [if_neg hs] at h3
   rw [if_neg hs,if_neg hs,if_neg hs]
   by_cases hm:by8 (n*w)<b.length
   ·rw [if_pos hm] at h3
    rw [if_neg (by rw [List.length_drop];omega),orf_keep (by omega)]
    exact ⟨fun e=>by omega,fun _=>h3⟩
   ·rw [if_neg hm] at h3
    have e1:b.take (by8 (n*w))=b:=List.take_of_length_le (by omega)
    have e2:b.drop (by8 (n*w))=[]:=List.drop_of_length_le (by omega)
    rw [e1,e2,if_pos (by rfl),orf_zero]
    refine ⟨fun e=>?_,fun e=>?_⟩
    ·rw [if_pos e] at h3
     exact h3
    ·rw [if_neg e] at h3
     exact h3
 ·have h4:(if b.length<by8 (n*w) then orf f 30 else orf (orf f (if (b.drop (by8 (n*w))).length=0 then 0 else 32)) (unE (b.take (by8 (n*w))) n w))=f:=by
   rw [orf_keep hf,orf_keep hf,orf_keep hf]
   split<;>rfl
  rw [h4]
  exact ⟨fun e=>absurd e hf,h2⟩
theorem bindR_assoc {α β γ : Type} (d:List Nat->Except Nat (α×List Nat)) (f:α->List Nat->Except Nat (β×List Nat)) (g:β->List Nat->Except Nat (γ×List Nat)):bindR (bindR d f) g=bindR d (fun x=>bindR (f x) g):=by
 funext b
 unfold bindR
 cases d b with
 | error e=>rfl
 | ok x=>rfl
theorem bindR_ok_left {α β : Type} (x:α) (f:α->List Nat->Except Nat (β×List Nat)):bindR (fun r=>.ok (x,r)) f=f x:=by
 funext b
 rfl
def fin (c:Nat) (b0:List Nat) (l:List Int) (r:List Nat):Except Nat (List Int×List Nat):=if r.length=0 then (if encC c l=b0 then .ok (l,[]) else .error 40) else .error 32
theorem fin_more (c:Nat) (b0:List Nat) (l:List Int) {r:List Nat} (h:r.length≠0):fin c b0 l r=.error 32:=by unfold fin;rw [if_neg h]
theorem rdAll_fin (c n:Nat) (b0:List Nat):bindR (rdC c n) (fin c b0) b0=(match rdAll c n b0 with | .ok l=>.ok (l,[]) | .error e=>.error e):=by
 unfold bindR rdAll
 cases rdC c n b0 with
 | error e=>rfl
 | ok x =>
  obtain ⟨l,r⟩:=x
  simp only [fin]
  split
  ·split<;>rfl
  ·rfl
theorem StC.set_other {T:Nat} {W:World} {p:Nat} {b:List Nat} {f:Nat} (h:StC T W p b f) {g:Nat} (hg:p<g) (i:Nat) (v:Value):StC T (W.setCell ⟨g,i,none⟩ v) p b f :=
 h.kept ((Below.refl (p+1) W).setCell (p:=⟨g,i,none⟩) hg v) (Nat.lt_succ_self p)
theorem OwnI.fr {p:Nat} {w w':World} {B:Nat} {v:Value} {l:List Int} (h:OwnI w B v l) (hf:Fr p w.heap.size w w') (hp:p<B):OwnI w' B v l:=hf.own h hp
theorem OwnI.low {W:World} {B B':Nat} {v:Value} {l:List Int} (h:OwnI W B' v l) (hb:B<=B'):OwnI W B v l:=by
 obtain ⟨h1,h2⟩:=h
 refine ⟨h1,?_⟩
 rcases h2 with h | ⟨g,cap,cur,e1,e2,e3⟩
 ·exact Or.inl h
 ·exact Or.inr ⟨g,cap,cur,e1,Nat.le_trans hb e2,e3⟩
theorem info2:(Tryz.prog.info? 2).map (fun i=>(i.zero,i.size,i.bytes))=some (some (.int .i64 0),1,8):=by kernel_rfl
theorem wpList_append_i {w:World} {ops:Array Oper} {rest:List Oper} {o:Oper} {a:Act} {Q:Exit->Act->World->Prop} (hgd:o.guard=none) (s x:Operand)
  (ho:o.op=.call { callee:=.builtin .append,args:=#[s,x],argTypes:=#[143,143] })
  (base:Nat) (v:Value) (g:Nat) (z:Int) (l0:List Int) (hs:a.eval s=v) (hown:OwnI w base v l0) (hx:a.eval x=.slice (some ⟨g,0,none⟩) 1 1) (hc:w.cell? ⟨g,0,none⟩=some (.int .i64 z))
  (hbytes:l0.length<=100000) (hbase:base<=w.heap.size)
  (h:∀ v' w',OwnI w' base v' (l0++[z])->Below base w w'->wpList Tryz.prog ops Q rest (a.put o.dst v') w') :
  wpList Tryz.prog ops Q (o::rest) a w:=by
 obtain ⟨i0,hi,hz0,hz1',hz2⟩:=info_parts info2
 unfold OwnI at *
 refine wpList_append_own_at (w:=w) hgd s x 143 ho base 2 i0 (.int .i64 0) 1 8 Tryz.underlying143 hi hz0 hz1' hz2 rfl (by decide) v l0.length (ivals l0) hs hown ⟨g,0,none⟩ 1 1 [.int .i64 z] hx rfl ?_ (fun u hu=>by
  have:u=.int .i64 z:=by simpa using hu
  subst this
  rfl) (by unfold maxLen;omega) (by omega) hbase ?_
 ·intro j u hu
  rw [add0]
  cases j with
  | zero =>
   simp only [List.getElem?_cons_zero,Option.some.injEq] at hu
   rw [← hu]
   exact hc
  | succ j=>simp at hu
 ·intro v' w' o1 g1 _ _
  refine h v' w' ?_ ((Below.refl base w).grown g1 hbase (fun k hk=>(hown.lt k hk).1))
  rw [ivals_append,List.length_append]
  exact o1
theorem wpList_append_u {w:World} {ops:Array Oper} {rest:List Oper} {o:Oper} {a:Act} {Q:Exit->Act->World->Prop} (hgd:o.guard=none) (s x:Operand)
  (ho:o.op=.call { callee:=.builtin .append,args:=#[s,x],argTypes:=#[142,142] })
  (base:Nat) (v:Value) (g:Nat) (z:Nat) (l0:List Nat) (hs:a.eval s=v) (hown:OwnU w base v l0) (hx:a.eval x=.slice (some ⟨g,0,none⟩) 1 1) (hc:w.cell? ⟨g,0,none⟩=some (.int .u64 (z:Int)))
  (hbytes:l0.length<=100000) (hbase:base<=w.heap.size)
  (h:∀ v' w',OwnU w' base v' (l0++[z])->Below base w w'->wpList Tryz.prog ops Q rest (a.put o.dst v') w') :
  wpList Tryz.prog ops Q (o::rest) a w:=by
 obtain ⟨i0,hi,hz0,hz1',hz2⟩:=info_parts info92
 unfold OwnU at *
 refine wpList_append_own_at (w:=w) hgd s x 142 ho base 92 i0 (.int .u64 0) 1 8 Tryz.underlying142 hi hz0 hz1' hz2 rfl (by decide) v l0.length (vals .u64 l0) hs hown ⟨g,0,none⟩ 1 1 [.int .u64 (z:Int)] hx rfl ?_ (fun u hu=>by
  have:u=.int .u64 (z:Int):=by simpa using hu
  subst this
  rfl) (by unfold maxLen;omega) (by omega) hbase ?_
 ·intro j u hu
  rw [add0]
  cases j with
  | zero =>
   simp only [List.getElem?_cons_zero,Option.some.injEq] at hu
   rw [← hu]
   exact hc
  | succ j=>simp at hu
 ·intro v' w' o1 g1 _ _
  refine h v' w' ?_ ((Below.refl base w).grown g1 hbase (fun k hk=>(hown.lt k hk).1))
  rw [vals_append,List.length_append]
  exact o1
end Go.Proofs.YtpljdjmpamjkhaaGreatDoor
set_option linter.unusedVariables false
set_option linter.unusedSimpArgs false
namespace Go.Proofs.YtpljdjmpamjkhaaGreatDoor
open Go.RowKit Go.Lib
def LPost (D:Except Nat (List Int×List Nat)) (G:List Int->List Nat->Except Nat (List Int×List Nat)) (p n:Nat) (w:World) (r:Ending) (w':World):Prop :=
 ∃ (l:List Int) (b':List Nat) (f':Nat),(∃ v,r=.returned v/\OwnI w' w.heap.size v l)/\Is l/\l.length<=n/\StC 333 w' p b' f'/\Goes D (G l) b' f'/\Fr p w.heap.size w w'
theorem rd0_step (G:List Int->List Nat->Except Nat (List Int×List Nat)) (ys:List Int) (m:Nat):bindR (rd0 (m+1)) (fun l=>G (ys++l))=bindR wh (fun x=>bindR (rd0 m) (fun l=>G ((ys++[x])++l))):=by
 have:rd0 (m+1)=bindR wh (fun x=>bindR (rd0 m) (fun l r=>.ok (x::l,r))):=by funext b;rfl
 rw [this,bindR_assoc]
 congr 1
 funext x
 rw [bindR_assoc]
 congr 1
 funext l
 rw [bindR_ok_left]
 simp
theorem rd0_end (G:List Int->List Nat->Except Nat (List Int×List Nat)) (ys:List Int):bindR (rd0 0) (fun l=>G (ys++l))=G ys:=by
 have:rd0 0=fun b=>.ok ([],b):=by funext b;rfl
 rw [this,bindR_ok_left,List.append_nil]
theorem rd1_step (G:List Int->List Nat->Except Nat (List Int×List Nat)) (ys:List Int) (m:Nat) (last:Int):bindR (rd1 (m+1) last) (fun l=>G (ys++l))=bindR wh (fun x=>bindR (rd1 m (w64 (last+x))) (fun l=>G ((ys++[w64 (last+x)])++l))):=by
 have:rd1 (m+1) last=bindR wh (fun d=>bindR (rd1 m (w64 (last+d))) (fun l r=>.ok (w64 (last+d)::l,r))):=by funext b;rfl
 rw [this,bindR_assoc]
 congr 1
 funext x
 rw [bindR_assoc]
 congr 1
 funext l
 rw [bindR_ok_left]
 simp
theorem rd1_end (G:List Int->List Nat->Except Nat (List Int×List Nat)) (ys:List Int) (last:Int):bindR (rd1 0 last) (fun l=>G (ys++l))=G ys:=by
 have:rd1 0 last=fun b=>.ok ([],b):=by funext b;rfl
 rw [this,bindR_ok_left,List.append_nil]
def padI (ys:List Int) (n:Nat):List Int:=ys++List.replicate (n-ys.length) 0
theorem padI_set {ys:List Int} {n:Nat} (h:ys.length<n) (z:Int):(padI ys n).set ys.length z=padI (ys++[z]) n:=by
 unfold padI
 obtain ⟨m,hm⟩:∃ m,n-ys.length=m+1:=⟨n-ys.length-1,by omega⟩
 rw [hm,List.length_append,List.length_singleton,show n-(ys.length+1)=m by omega,List.replicate_succ]
 simp
theorem padI_length {ys:List Int} {n:Nat} (h:ys.length<=n):(padI ys n).length=n:=by unfold padI;simp;omega
theorem padI_full {ys:List Int} {n:Nat} (h:ys.length=n):padI ys n=ys:=by unfold padI;simp [h]
theorem made_ivals (n:Nat):(madeCells #[Value.int .i64 0] n).toList=ivals (padI [] n):=by
 rw [toList_madeCells_one]
 simp [ivals,padI]
theorem Is.snoc {ys:List Int} {x:Int} (h:Is ys) (hx:I64 x):Is (ys++[x]):=fun y hy=>by
 rcases List.mem_append.1 hy with hy | hy
 ·exact h y hy
 ·have:y=x:=by simpa using hy
  subst this
  exact hx
theorem each_any {D:Except Nat (List Int×List Nat)} {G:List Int->List Nat->Except Nat (List Int×List Nat)} {w:World} {p n f:Nat} {b:List Nat} (h:StC 333 w p b f) (hn:n<=256) (hg:Goes D (bindR (rd0 n) G) b f) :
  Calls Tryz.prog 314 #[.pointer (some ⟨p,0,none⟩),.int .i64 (n:Int)] w (LPost D G p n w):=by
 obtain ⟨i0,hi,hz0,hz1',hz2⟩:=info_parts info2
 have HS:=hidden h
 have HG:=hidden hg
 have hlt:=h.lt
 clear h hg
 go_enter Tryz.func314,Tryz.ntmps314
 go_wp2_with (first | (refine wpList_make_full _ rfl _ _ 143 rfl w.heap.size 2 i0 (.int .i64 0) 1 Tryz.underlying143 hi hz0 hz1' .i64 .i64 _ _ n rfl rfl ?m1 ?m2 ?m3 ?m4 ?m5 ?_))
 case m1=>rfl
 case m2=>rfl
 case m3=>rw [hz2];omega
 case m4=>unfold maxLen;omega
 case m5=>omega
 intro w4 ho4 hg4
 have hb4:Below w.heap.size w w4:=(Below.refl _ _).grown hg4 (Nat.le_refl _) (fun k hk=>by cases hk)
 have ho4':w4.ownsRow w.heap.size 2 1 (.slice (some ⟨w.heap.size,0,none⟩) n n) n (ivals (padI [] n)):=by
  rw [← made_ivals]
  simpa using ho4
 have HO4:=hidden ho4'
 have HB4:=hidden hb4
 clear ho4 hg4 hb4 ho4'
 go_wp2_with fail
 go_loopw [11] (fun i wr=>∃ (ys:List Int) (b':List Nat) (f':Nat),i=.int .i64 (ys.length:Int)/\ys.length<=n/\Is ys/\wr.ownsRow w.heap.size 2 1 (.slice (some ⟨w.heap.size,0,none⟩) n n) n (ivals (padI ys n))/\StC 333 wr p b' f'/\Goes D (bindR (rd0 (n-ys.length)) (fun l=>G (ys++l))) b' f'/\Fr p w.heap.size w wr) (fun i _=>n-(intOf i).toNat)
 case atStart=>exact ⟨[],b,f,rfl,by simp,fun x hx=>by simp at hx,HO4.out,HS.out.kept HB4.out hlt,HG.out,Fr.of_below HB4.out⟩
 case round =>
  obtain ⟨ys,b',f',rfl,hk,hys,how,hst,hgo,hfr⟩:=hrel
  have HYS:=hidden hys
  have HO:=hidden how
  have HST:=hidden hst
  have HGO:=hidden hgo
  have HFR:=hidden hfr
  have hzr:=hfr.size
  clear hys how hst hgo hfr
  by_cases hlt2:ys.length<n
  ·obtain ⟨m,hm⟩:∃ m,n-ys.length=m+1:=⟨n-ys.length-1,by omega⟩
   have hgo2:=HGO.out
   rw [hm,rd0_step] at hgo2
   have HGO2:=hidden hgo2.wh
   have HX:=hidden (unzig_i64 (gt_form b').1)
   have HW:=hidden (whole_any HST.out)
   have HM:=hidden hm
   clear hgo2 hm HGO
   generalize unzig (gt b').1=x at *
   go_wp2_with fail
   refine HW.out.mono ?_
   rintro e w5 ⟨rfl,hs5,hf5⟩
   have ho5:=hf5.own HO.out hlt
   have HFR5:=hidden (HFR.out.trans (hf5.mono hzr))
   have hfl:ys.length<(padI ys n).length:=by rw [padI_length (by omega)];exact hlt2
   have hck5:=(ho5.cellAt ys.length (by omega)).trans (ivals_get hfl)
   have hfr5:=ho5.frozenAt ys.length
   have hST:=ho5.stored ys.length (.int .i64 x)
   rw [ivals_set,padI_set hlt2] at hST
   have HSTO:=hidden hST
   have hgz:=(ho5.lt w.heap.size rfl).2
   have HS5:=hidden (hs5.set_other (g:=w.heap.size) hlt ys.length (.int .i64 x))
   have hz5:=HFR5.out.size
   clear hST hs5 hf5 ho5
   generalize (padI ys n)[ys.length]=y at *
   go_wp2_with fail
   go_roundw
   case rel =>
    refine ⟨ys++[x],_,_,?_,?_,HYS.out.snoc HX.out,HSTO.out.1,HS5.out,?_,?_⟩
    ·simp
    ·simp;omega
    ·have e:n-(ys++[x]).length=m:=by have:=HM.out;simp;omega
     rw [e]
     exact HGO2.out
    ·exact HFR5.out.then ((Below.refl _ _).setCell (p:=⟨w.heap.size,ys.length,none⟩) (Nat.le_refl _) _)
   case measure=>simp [intOf];omega
  ·have hyl:ys.length=n:=by omega
   have hgo2:=HGO.out
   rw [show n-ys.length=0 by omega,rd0_end] at hgo2
   have HGO2:=hidden hgo2
   have HO':Hid (OwnI wr w.heap.size (.slice (some ⟨w.heap.size,0,none⟩) n n) ys):=hidden (by
    have:=HO.out
    rw [padI_full hyl] at this
    unfold OwnI
    rw [hyl]
    exact this)
   clear hgo2 HGO hyl
   go_wp2_with fail
   go_ret
   exact ⟨ys,b',f',⟨_,rfl,HO'.out⟩,HYS.out,by omega,HST.out,HGO2.out,HFR.out⟩
theorem steps_any {D:Except Nat (List Int×List Nat)} {G:List Int->List Nat->Except Nat (List Int×List Nat)} {w:World} {p n f:Nat} {b:List Nat} (h:StC 333 w p b f) (hn:n<=256) (hg:Goes D (bindR (rd1 n 0) G) b f) :
  Calls Tryz.prog 315 #[.pointer (some ⟨p,0,none⟩),.int .i64 (n:Int)] w (LPost D G p n w):=by
 obtain ⟨i0,hi,hz0,hz1',hz2⟩:=info_parts info2
 have HS:=hidden h
 have HG:=hidden hg
 have hlt:=h.lt
 clear h hg
 go_enter Tryz.func315,Tryz.ntmps315
 go_wp2_with (first | (refine wpList_make_full _ rfl _ _ 143 rfl w.heap.size 2 i0 (.int .i64 0) 1 Tryz.underlying143 hi hz0 hz1' .i64 .i64 _ _ n rfl rfl ?m1 ?m2 ?m3 ?m4 ?m5 ?_))
 case m1=>rfl
 case m2=>rfl
 case m3=>rw [hz2];omega
 case m4=>unfold maxLen;omega
 case m5=>omega
 intro w4 ho4 hg4
 have hb4:Below w.heap.size w w4:=(Below.refl _ _).grown hg4 (Nat.le_refl _) (fun k hk=>by cases hk)
 have ho4':w4.ownsRow w.heap.size 2 1 (.slice (some ⟨w.heap.size,0,none⟩) n n) n (ivals (padI [] n)):=by
  rw [← made_ivals]
  simpa using ho4
 have HO4:=hidden ho4'
 have HB4:=hidden hb4
 clear ho4 hg4 hb4 ho4'
 go_wp2_with fail
 go_loopw [6,12] (fun ah i wr=>∃ (last:Int) (ys:List Int) (b':List Nat) (f':Nat),ah=.int .i64 last/\I64 last/\i=.int .i64 (ys.length:Int)/\ys.length<=n/\Is ys/\wr.ownsRow w.heap.size 2 1 (.slice (some ⟨w.heap.size,0,none⟩) n n) n (ivals (padI ys n))/\StC 333 wr p b' f'/\Goes D (bindR (rd1 (n-ys.length) last) (fun l=>G (ys++l))) b' f'/\Fr p w.heap.size w wr) (fun _ i _=>n-(intOf i).toNat)
 case atStart=>exact ⟨0,[],b,f,rfl,by unfold I64;omega,rfl,by simp,fun x hx=>by simp at hx,HO4.out,HS.out.kept HB4.out hlt,HG.out,Fr.of_below HB4.out⟩
 case round =>
  obtain ⟨last,ys,b',f',rfl,hlast,rfl,hk,hys,how,hst,hgo,hfr⟩:=hrel
  have HYS:=hidden hys
  have HO:=hidden how
  have HST:=hidden hst
  have HGO:=hidden hgo
  have HFR:=hidden hfr
  have hzr:=hfr.size
  clear hys how hst hgo hfr
  by_cases hlt2:ys.length<n
  ·obtain ⟨m,hm⟩:∃ m,n-ys.length=m+1:=⟨n-ys.length-1,by omega⟩
   have hgo2:=HGO.out
   rw [hm,rd1_step] at hgo2
   have HGO2:=hidden hgo2.wh
   have HX:=hidden (w64_i64 (last+unzig (gt b').1))
   have hwr:=wrap_w64 (last+unzig (gt b').1)
   have HW:=hidden (whole_any HST.out)
   have HM:=hidden hm
   clear hgo2 hm HGO
   generalize unzig (gt b').1=x0 at *
   generalize w64 (last+x0)=x at *
   go_wp2_with fail
   refine HW.out.mono ?_
   rintro e w5 ⟨rfl,hs5,hf5⟩
   have ho5:=hf5.own HO.out hlt
   have HFR5:=hidden (HFR.out.trans (hf5.mono hzr))
   have hfl:ys.length<(padI ys n).length:=by rw [padI_length (by omega)];exact hlt2
   have hck5:=(ho5.cellAt ys.length (by omega)).trans (ivals_get hfl)
   have hfr5:=ho5.frozenAt ys.length
   have hST:=ho5.stored ys.length (.int .i64 x)
   rw [ivals_set,padI_set hlt2] at hST
   have HSTO:=hidden hST
   have hgz:=(ho5.lt w.heap.size rfl).2
   have HS5:=hidden (hs5.set_other (g:=w.heap.size) hlt ys.length (.int .i64 x))
   have hz5:=HFR5.out.size
   clear hST hs5 hf5 ho5
   generalize (padI ys n)[ys.length]=y at *
   go_wp2_with fail
   go_roundw
   case rel =>
    refine ⟨x,ys++[x],_,_,rfl,HX.out,?_,?_,HYS.out.snoc HX.out,HSTO.out.1,HS5.out,?_,?_⟩
    ·simp
    ·simp;omega
    ·have e:n-(ys++[x]).length=m:=by have:=HM.out;simp;omega
     rw [e]
     exact HGO2.out
    ·exact HFR5.out.then ((Below.refl _ _).setCell (p:=⟨w.heap.size,ys.length,none⟩) (Nat.le_refl _) _)
   case measure=>simp [intOf];omega
  ·have hyl:ys.length=n:=by omega
   have hgo2:=HGO.out
   rw [show n-ys.length=0 by omega,rd1_end] at hgo2
   have HGO2:=hidden hgo2
   have HO':Hid (OwnI wr w.heap.size (.slice (some ⟨w.heap.size,0,none⟩) n n) ys):=hidden (by
    have:=HO.out
    rw [padI_full hyl] at this
    unfold OwnI
    rw [hyl]
    exact this)
   clear hgo2 HGO hyl
   go_wp2_with fail
   go_ret
   exact ⟨ys,b',f',⟨_,rfl,HO'.out⟩,HYS.out,by omega,HST.out,HGO2.out,HFR.out⟩
end Go.Proofs.YtpljdjmpamjkhaaGreatDoor
set_option linter.unusedVariables false
set_option linter.unusedSimpArgs false
namespace Go.Proofs.YtpljdjmpamjkhaaGreatDoor
open Go.RowKit Go.Lib
theorem Goes.any {D:Except Nat (List Int×List Nat)} {K K':List Nat->Except Nat (List Int×List Nat)} {b:List Nat} {f:Nat} (h:Goes D K b f) (hf:f≠0):Goes D K' b f:=⟨fun e=>absurd e hf,h.2⟩
theorem withinF_bad {lo hi v f:Nat} (h:v<lo∨hi<v):withinF lo hi v f≠0:=by
 unfold withinF orf
 rw [if_pos h]
 split<;>omega
theorem rd2_step (G:List Int->List Nat->Except Nat (List Int×List Nat)) (ys:List Int) (fu m:Nat) (hm:m≠0):bindR (rd2 (fu+1) m) (fun l=>G (ys++l)) =
  bindR wh (fun x=>bindR num (fun k=>if k=0∨m<k then (fun _=>.error 40) else bindR (rd2 fu (m-k)) (fun l=>G ((ys++List.replicate k x)++l)))):=by
 have:rd2 (fu+1) m=bindR wh (fun x=>bindR num (fun k=>if k=0∨m<k then (fun _=>.error 40) else bindR (rd2 fu (m-k)) (fun l r=>.ok (List.replicate k x++l,r)))):=by
  funext b
  rw [rd2,if_neg hm]
 rw [this,bindR_assoc]
 congr 1
 funext x
 rw [bindR_assoc]
 congr 1
 funext k
 split
 ·rfl
 ·rw [bindR_assoc]
  congr 1
  funext l
  rw [bindR_ok_left]
  simp
theorem rd2_end (G:List Int->List Nat->Except Nat (List Int×List Nat)) (ys:List Int) (fu:Nat):bindR (rd2 fu 0) (fun l=>G (ys++l))=G ys:=by
 have:rd2 fu 0=fun b=>.ok ([],b):=by funext b;exact rd2_zero fu b
 rw [this,bindR_ok_left,List.append_nil]
def lenOf:Value->Nat
 | .slice _ n _=>n
 | _=>0
def calm (p:Nat) (W:World):Nat :=
 match W.cell? ⟨p,1,none⟩ with
 | some (.int _ n)=>if n=0 then 1 else 0
 | _=>0
theorem calm_zero {T:Nat} {W:World} {p:Nat} {b:List Nat} {f:Nat} (h:StC T W p b f) (hf:f=0):calm p W=1:=by
 obtain ⟨_,_,_,_,h1,_⟩:=h.cells
 unfold calm
 rw [h1,hf]
 rfl
theorem calm_not {T:Nat} {W:World} {p:Nat} {b:List Nat} {f:Nat} (h:StC T W p b f) (hf:f≠0):calm p W=0:=by
 obtain ⟨_,_,_,_,h1,_⟩:=h.cells
 unfold calm
 rw [h1]
 simp only
 rw [if_neg (by omega)]
theorem calm_le (p:Nat) (W:World):calm p W<=1:=by
 unfold calm
 split
 ·split<;>omega
 ·omega
theorem runs_any {D:Except Nat (List Int×List Nat)} {G:List Int->List Nat->Except Nat (List Int×List Nat)} {w:World} {p n f:Nat} {b:List Nat} (h:StC 333 w p b f) (hn:n<=256) (hg:Goes D (bindR (rd2 n n) G) b f) :
  Calls Tryz.prog 316 #[.pointer (some ⟨p,0,none⟩),.int .i64 (n:Int)] w (LPost D G p n w):=by
 have HS:=hidden h
 have HG:=hidden hg
 have hlt:=h.lt
 clear h hg
 go_enter Tryz.func316,Tryz.ntmps316
 go_wp2_with fail
 go_loopw [5] (fun v wr=>∃ (fu:Nat) (ys:List Int) (b':List Nat) (f':Nat),ys.length<=n/\Is ys/\OwnI wr w.heap.size v ys/\StC 333 wr p b' f'/\(f'=0->n-ys.length<=fu)/\Goes D (bindR (rd2 fu (n-ys.length)) (fun l=>G (ys++l))) b' f'/\Fr p w.heap.size w wr) (fun v wr=>2*(n-lenOf v)+calm p wr)
 case atStart=>exact ⟨n,[],b,f,by simp,fun x hx=>by simp at hx,OwnI.nil _ _,HS.out,fun _=>by simp,HG.out,Fr.refl _ _ _⟩
 case round =>
  obtain ⟨fu,ys,b',f',hk,hys,how,hst,hfu,hgo,hfr⟩:=hrel
  have HYS:=hidden hys
  have HO:=hidden how
  have HST:=hidden hst
  have HGO:=hidden hgo
  have HFR:=hidden hfr
  have HFU:=hidden hfu
  have hzr:=hfr.size
  obtain ⟨av,cv,rfl⟩:=how.len
  obtain ⟨g,off,cap,c0,c1,c2,c3,c4,c5,c6,c7,c8,c9⟩:=hst.cells
  clear hys how hst hgo hfr hfu c0 c2 c3 c4 c5 c6 c7 c8 c9
  by_cases hlt2:(ys.length:Int)<(n:Int)
  ·by_cases hf0:((f':Int)==0)=true
   ·have hf0':f'=0:=by simpa using hf0
    have hm:n-ys.length≠0:=by omega
    have hfu2:=HFU.out hf0'
    obtain ⟨fu',rfl⟩:∃ q,fu=q+1:=⟨fu-1,by omega⟩
    have hgo2:=HGO.out
    rw [rd2_step _ _ _ _ hm] at hgo2
    have hgo3:=hgo2.wh
    have HX:=hidden (unzig_i64 (gt_form b').1)
    have HW:=hidden (whole_any HST.out)
    have HC1:=hidden (calm_zero HST.out hf0')
    clear hgo2 HGO
    generalize unzig (gt b').1=x at *
    generalize b'.drop (gt b').2.1=b1 at *
    generalize orf f' (gt b').2.2=f1 at *
    have hgo4:=Goes.num (lo:=1) (hi:=n-ys.length) (fun v=>by constructor<;>(intro h;omega)) hgo3
    obtain ⟨g1,g2,g3,g4⟩:=gt_form b1
    have hsub:(n:Int)-(ys.length:Int)=((n-ys.length:Nat):Int):=by omega
    have hbad:within 1 (n-ys.length) (gt b1).1=0->withinF 1 (n-ys.length) (gt b1).1 (orf f1 (gt b1).2.2)≠0:=by
     intro h0
     unfold within at h0
     split at h0
     ·next hb=>exact withinF_bad hb
     ·next hb=>omega
    have hkle:within 1 (n-ys.length) (gt b1).1<=n-ys.length:=by
     unfold within
     split<;>omega
    have HN1:Hid (∀ W,StC 333 W p b1 f1->Calls Tryz.prog 321 #[.pointer (some ⟨p,0,none⟩),.int .u64 (1:Int),.int .u64 ((n-ys.length:Nat):Int)] W fun r w'=>r=.returned (.int .u64 (within 1 (n-ys.length) (gt b1).1:Int))/\StC 333 w' p (b1.drop (gt b1).2.1) (withinF 1 (n-ys.length) (gt b1).1 (orf f1 (gt b1).2.2))/\Fr p W.heap.size W w'):=fun W h=>number_anyC h 1 (n-ys.length) (by omega) (by omega)
    have HGO4:=hidden hgo4
    have HBAD:=hidden hbad
    clear hgo3 hgo4 g1 g2 g3 g4 hbad HFU
    generalize within 1 (n-ys.length) (gt b1).1=k at *
    generalize withinF 1 (n-ys.length) (gt b1).1 (orf f1 (gt b1).2.2)=f2 at *
    generalize b1.drop (gt b1).2.1=b2 at *
    clear hf0'
    go_wp2_with fail
    refine HW.out.mono ?_
    rintro e w5 ⟨rfl,hs5,hf5⟩
    have HS5:=hidden hs5
    have HO5:=hidden (HO.out.fr hf5 hlt)
    have HFR5:=hidden (HFR.out.trans (hf5.mono hzr))
    have hz5:=HFR5.out.size
    clear hs5 hf5 c1
    go_wp2_with fail
    refine (HN1.out _ HS5.out).mono ?_
    rintro e w6 ⟨rfl,hs6,hf6⟩
    have HS6:=hidden hs6
    have HO6:=hidden (HO5.out.fr hf6 hlt)
    have HFR6:=hidden (HFR5.out.trans (hf6.mono hz5))
    have hz6:=HFR6.out.size
    clear hs6 hf6
    go_wp2_with fail
    go_loopw [5,29] (fun v j wq=>∃ i:Nat,i<=k/\j=.int .u64 (i:Int)/\OwnI wq w.heap.size v (ys++List.replicate i x)/\StC 333 wq p b2 f2/\Fr p w.heap.size w wq) (fun _ j _=>k-(intOf j).toNat)
    case atStart=>exact ⟨0,by omega,rfl,by simpa using HO6.out,HS6.out,HFR6.out⟩
    case round =>
     obtain ⟨i,hik,rfl,hoq,hsq,hfq⟩:=hrel
     have HOQ:=hidden hoq
     have HSQ:=hidden hsq
     have HFQ:=hidden hfq
     have hzq:=hfq.size
     obtain ⟨aq,cq,rfl⟩:=hoq.len
     clear hoq hsq hfq
     by_cases hij:(i:Int)<(k:Int)
     ·have HOA:=hidden (HOQ.out.kept ((Below.refl _ _).alloc (Nat.le_refl _) (.cells #[.int .i64 x] 2)))
      have HSA:=hidden (HSQ.out.kept ((Below.refl _ _).alloc (Nat.le_refl _) (.cells #[.int .i64 x] 2)) HSQ.out.lt)
      have HFA:=hidden (HFQ.out.then ((Below.refl w.heap.size _).alloc hzq (.cells #[.int .i64 x] 2)))
      have hlen:(ys++List.replicate i x).length<=256:=by simp;omega
      go_wp2_with (first | (at_builtin;refine wpList_append_i rfl _ _ rfl w.heap.size _ _ x (ys++List.replicate i x) rfl HOA.out rfl ?c1 ?c2 ?c3 ?_))
      case c1=>exact cell_new _ _ _
      case c2=>omega
      case c3=>rw [World.size_alloc];omega
      intro v7 w7 o7 b7
      have e7:ys++(List.replicate i x++[x])=ys++List.replicate (i+1) x:=by rw [List.replicate_succ']
      rw [e7] at o7
      have HO7:=hidden o7
      have HS7:=hidden (HSA.out.kept b7 hlt)
      have HF7:=hidden (HFA.out.then b7)
      clear o7 b7 e7
      go_wp2_with fail
      go_roundw
      case rel=>exact ⟨i+1,by omega,by go_num,HO7.out,HS7.out,HF7.out⟩
      case measure=>simp [intOf];omega
     ·obtain rfl:i=k:=by omega
      have HNEW:Hid (∃ fu2,(f2=0->n-(ys++List.replicate i x).length<=fu2)/\Goes D (bindR (rd2 fu2 (n-(ys++List.replicate i x).length)) (fun l=>G ((ys++List.replicate i x)++l))) b2 f2):=hidden (by
       have hsum:n-(ys++List.replicate i x).length=n-ys.length-i:=by simp;omega
       rw [hsum]
       by_cases hf2:f2=0
       ·have hi0:i≠0:=fun e=>HBAD.out e hf2
        exact ⟨fu',fun _=>by omega,HGO4.out⟩
       ·exact ⟨0,fun e=>absurd e hf2,HGO4.out.any hf2⟩)
      have HME:Hid (2*(n-(ys++List.replicate i x).length)+calm p wr<2*(n-ys.length)+1):=hidden (by
       have hsum:(ys++List.replicate i x).length=ys.length+i:=by simp
       rw [hsum]
       by_cases hf2:f2=0
       ·have hi0:i≠0:=fun e=>HBAD.out e hf2
        have:=calm_le p wr
        omega
       ·rw [calm_not HSQ.out hf2]
        omega)
      have HISN:Hid (Is (ys++List.replicate i x)):=fun y hy=>by
       rcases List.mem_append.1 hy with hy | hy
       ·exact HYS.out y hy
       ·rw [List.eq_of_mem_replicate hy]
        exact HX.out
      have HLE:Hid ((ys++List.replicate i x).length<=n):=hidden (by simp;omega)
      go_wp2_with fail
      go_roundw
      case rel =>
       obtain ⟨fu2,h1,h2⟩:=HNEW.out
       exact ⟨fu2,_,_,_,HLE.out,HISN.out,HOQ.out,HSQ.out,h1,h2,HFQ.out⟩
      case measure =>
       have h1:=HME.out
       have h2:=HC1.out
       simp only [lenOf]
       rw [h2]
       exact h1
   ·have hff:((f':Int)==0)=false:=by simpa using hf0
    have hne:f'≠0:=fun e=>hf0 (by simp [e])
    have HGE:=hidden (HGO.out.any (K':=G ys) hne)
    clear hf0 hne
    go_wp2_with fail
    go_ret
    exact ⟨ys,b',f',⟨_,rfl,HO.out⟩,HYS.out,hk,HST.out,HGE.out,HFR.out⟩
  ·have hgo2:=HGO.out
   rw [show n-ys.length=0 by omega,rd2_end] at hgo2
   have HGE:=hidden hgo2
   clear hgo2
   go_wp2_with fail
   go_ret
   exact ⟨ys,b',f',⟨_,rfl,HO.out⟩,HYS.out,hk,HST.out,HGE.out,HFR.out⟩
end Go.Proofs.YtpljdjmpamjkhaaGreatDoor
set_option linter.unusedVariables false
set_option linter.unusedSimpArgs false
namespace Go.Proofs.YtpljdjmpamjkhaaGreatDoor
open Go.RowKit Go.Lib
theorem rdU_step (G:List Int->List Nat->Except Nat (List Int×List Nat)) (us:List Int) (q:Nat) (last:Int):bindR (rdU (q+1) last) (fun u=>G (us++u)) =
  bindR num (fun (d:Nat)=>if d=0∨9223372036854775807-last<(d:Int) then (fun _=>.error 40) else bindR (rdU q (last+d)) (fun u=>G ((us++[last+d])++u))):=by
 have:rdU (q+1) last=bindR num (fun (d:Nat)=>if d=0∨9223372036854775807-last<(d:Int) then (fun _=>.error 40) else bindR (rdU q (last+d)) (fun l r=>.ok ((last+d)::l,r))):=by
  funext b
  rw [rdU]
 rw [this,bindR_assoc]
 congr 1
 funext d
 split
 ·rfl
 ·rw [bindR_assoc]
  congr 1
  funext l
  rw [bindR_ok_left]
  simp
theorem rdU_end (G:List Int->List Nat->Except Nat (List Int×List Nat)) (us:List Int) (last:Int):bindR (rdU 0 last) (fun u=>G (us++u))=G us:=by
 have:rdU 0 last=fun b=>.ok ([],b):=by funext b;rfl
 rw [this,bindR_ok_left,List.append_nil]
def riseK (G:List Int->List Nat->Except Nat (List Int×List Nat)) (m:Nat) (us:List Int) (last:Int):List Nat->Except Nat (List Int×List Nat) :=
 if us.length=0 then (if m=0 then G [] else bindR wh (fun x=>bindR (rdU (m-1) x) (fun u=>G (x::u)))) else bindR (rdU (m-us.length) last) (fun u=>G (us++u))
theorem riseK_end (G:List Int->List Nat->Except Nat (List Int×List Nat)) (us:List Int) (last:Int):riseK G us.length us last=G us:=by
 unfold riseK
 by_cases h:us.length=0
 ·rw [if_pos h,if_pos h,List.eq_nil_of_length_eq_zero h]
 ·rw [if_neg h,Nat.sub_self,rdU_end]
theorem riseK_first (G:List Int->List Nat->Except Nat (List Int×List Nat)) {m:Nat} (hm:0<m) (last:Int):riseK G m [] last=bindR wh (fun x=>riseK G m [x] x):=by
 unfold riseK
 rw [if_pos (show ([]:List Int).length=0 from rfl),if_neg (by omega)]
 congr 1
theorem riseK_next (G:List Int->List Nat->Except Nat (List Int×List Nat)) {m:Nat} {us:List Int} (h0:0<us.length) (hm:us.length<m) (last:Int):riseK G m us last =
  bindR num (fun (d:Nat)=>if d=0∨9223372036854775807-last<(d:Int) then (fun _=>.error 40) else riseK G m (us++[last+d]) (last+d)):=by
 unfold riseK
 obtain ⟨q,hq⟩:∃ q,m-us.length=q+1:=⟨m-us.length-1,by omega⟩
 rw [if_neg (by omega),hq,rdU_step]
 congr 1
 funext d
 rw [if_neg (show ¬ (us++[last+(d:Int)]).length=0 by simp),show m-(us++[last+(d:Int)]).length=q by simp;omega]
theorem rising_any {D:Except Nat (List Int×List Nat)} {G:List Int->List Nat->Except Nat (List Int×List Nat)} {w:World} {p m f:Nat} {b:List Nat} (h:StC 333 w p b f) (hm:m<=256) (hg:Goes D (riseK G m [] 0) b f) :
  Calls Tryz.prog 322 #[.pointer (some ⟨p,0,none⟩),.int .i64 (m:Int)] w fun r w'=>∃ (l:List Int) (b':List Nat) (f':Nat),(∃ v,r=.returned v/\OwnI w' w.heap.size v l)/\Is l/\l.length=m/\StC 333 w' p b' f'/\Goes D (G l) b' f'/\Fr p w.heap.size w w':=by
 have HS:=hidden h
 have HG:=hidden hg
 have hlt:=h.lt
 clear h hg
 go_enter Tryz.func322,Tryz.ntmps322
 go_wp2_with fail
 go_loopw [5,6,9] (fun v la i wr=>∃ (us:List Int) (last:Int) (b':List Nat) (f':Nat),i=.int .i64 (us.length:Int)/\la=.int .i64 last/\us.length<=m/\Is us/\I64 last/\OwnI wr w.heap.size v us/\StC 333 wr p b' f'/\Goes D (riseK G m us last) b' f'/\Fr p w.heap.size w wr) (fun _ _ i _=>m-(intOf i).toNat)
 case atStart=>exact ⟨[],0,b,f,rfl,rfl,by simp,fun x hx=>by simp at hx,by unfold I64;omega,OwnI.nil _ _,HS.out,HG.out,Fr.refl _ _ _⟩
 case round =>
  obtain ⟨us,last,b',f',rfl,rfl,hk,hus,hla,how,hst,hgo,hfr⟩:=hrel
  have HUS:=hidden hus
  have HO:=hidden how
  have HST:=hidden hst
  have HGO:=hidden hgo
  have HFR:=hidden hfr
  have HLA:=hidden hla
  have hzr:=hfr.size
  obtain ⟨av,cv,rfl⟩:=how.len
  clear hus how hst hgo hfr hla
  by_cases hlt2:us.length<m
  ·have hlt3:(us.length:Int)<(m:Int):=by omega
   by_cases hz:us.length=0
   ·obtain rfl:us=[]:=List.eq_nil_of_length_eq_zero hz
    have hgo2:=HGO.out
    rw [riseK_first G (by omega)] at hgo2
    have HGO2:=hidden hgo2.wh
    have HX:=hidden (unzig_i64 (gt_form b').1)
    have HW:=hidden (whole_any HST.out)
    clear hgo2 HGO hz hlt2
    generalize unzig (gt b').1=x at *
    generalize b'.drop (gt b').2.1=b1 at *
    generalize orf f' (gt b').2.2=f1 at *
    rw [List.length_nil] at *
    go_wp2_with fail
    refine HW.out.mono ?_
    rintro e w5 ⟨rfl,hs5,hf5⟩
    have hz5:=hf5.size
    have HO5:=hidden ((HO.out.fr hf5 hlt).kept ((Below.refl _ _).alloc (Nat.le_refl _) (.cells #[.int .i64 x] 2)))
    have HS5:=hidden (hs5.kept ((Below.refl _ _).alloc (Nat.le_refl _) (.cells #[.int .i64 x] 2)) hs5.lt)
    have HFR5:=hidden ((HFR.out.trans (hf5.mono hzr)).then ((Below.refl w.heap.size _).alloc (by omega) (.cells #[.int .i64 x] 2)))
    clear hs5 hf5
    go_wp2_with (first | (at_builtin;refine wpList_append_i rfl _ _ rfl w.heap.size _ _ x [] rfl HO5.out rfl ?c1 ?c2 ?c3 ?_))
    case c1=>exact cell_new _ _ _
    case c2=>simp
    case c3=>rw [World.size_alloc];omega
    intro v7 w7 o7 b7
    have HO7:=hidden o7
    have HS7:=hidden (HS5.out.kept b7 hlt)
    have HF7:=hidden (HFR5.out.then b7)
    clear o7 b7
    go_wp2_with fail
    go_roundw
    case rel=>exact ⟨[x],x,_,_,rfl,rfl,by simp;omega,fun y hy=>by rw [List.mem_singleton.1 hy];exact HX.out,HX.out,HO7.out,HS7.out,HGO2.out,HF7.out⟩
    case measure=>simp [intOf];omega
   ·have hz0:((us.length:Int)==0)=false:=beq_eq_false_iff_ne.2 (by omega)
    have hgo2:=HGO.out
    rw [riseK_next G (by omega) hlt2] at hgo2
    have hl1:=HLA.out.1
    have hl2:=HLA.out.2
    have hgo4:=Goes.num (lo:=1) (hi:=(9223372036854775807-last).toNat) (fun v=>by constructor<;>(intro h;omega)) hgo2
    have HD:=hidden (fun W=>distance_up (a:=last) (b:=9223372036854775807) HLA.out (by unfold I64;omega) hl2 W)
    have HN1:Hid (∀ W,StC 333 W p b' f'->Calls Tryz.prog 321 #[.pointer (some ⟨p,0,none⟩),.int .u64 (1:Int),.int .u64 ((9223372036854775807-last).toNat:Int)] W fun r w'=>r=.returned (.int .u64 (within 1 (9223372036854775807-last).toNat (gt b').1:Int))/\StC 333 w' p (b'.drop (gt b').2.1) (withinF 1 (9223372036854775807-last).toNat (gt b').1 (orf f' (gt b').2.2))/\Fr p W.heap.size W w'):=fun W h=>number_anyC h 1 _ (by omega) (by omega)
    have hkle:within 1 (9223372036854775807-last).toNat (gt b').1<=(9223372036854775807-last).toNat:=by
     unfold within
     split<;>omega
    have HGO4:=hidden hgo4
    clear hgo2 hgo4 HGO hz
    generalize within 1 (9223372036854775807-last).toNat (gt b').1=d at *
    generalize withinF 1 (9223372036854775807-last).toNat (gt b').1 (orf f' (gt b').2.2)=f1 at *
    generalize b'.drop (gt b').2.1=b1 at *
    have HX:Hid (I64 (last+(d:Int))):=hidden (by unfold I64;omega)
    obtain ⟨y,hy⟩:∃ y,IntKind.i64.wrap (d:Int)=y:=⟨_,rfl⟩
    have hyz:IntKind.i64.wrap (last+y)=last+(d:Int):=by
     rw [← hy,IntKind.wrap_i64,IntKind.wrap_i64]
     omega
    generalize last+(d:Int)=x at *
    generalize (9223372036854775807-last).toNat=hi at *
    clear hkle
    go_wp2_with fail
    refine (HD.out _).mono ?_
    rintro e w1 ⟨rfl,rfl⟩
    go_wp2_with fail
    refine (HN1.out _ HST.out).mono ?_
    rintro e w5 ⟨rfl,hs5,hf5⟩
    have hz5:=hf5.size
    have HO5:=hidden ((HO.out.fr hf5 hlt).kept ((Below.refl _ _).alloc (Nat.le_refl _) (.cells #[.int .i64 x] 2)))
    have HS5:=hidden (hs5.kept ((Below.refl _ _).alloc (Nat.le_refl _) (.cells #[.int .i64 x] 2)) hs5.lt)
    have HFR5:=hidden ((HFR.out.trans (hf5.mono hzr)).then ((Below.refl w.heap.size _).alloc (by omega) (.cells #[.int .i64 x] 2)))
    clear hs5 hf5
    go_wp2_with (first | (at_builtin;refine wpList_append_i rfl _ _ rfl w.heap.size _ _ x us rfl HO5.out rfl ?c1 ?c2 ?c3 ?_))
    case c1=>exact cell_new _ _ _
    case c2=>omega
    case c3=>rw [World.size_alloc];omega
    intro v7 w7 o7 b7
    have HO7:=hidden o7
    have HS7:=hidden (HS5.out.kept b7 hlt)
    have HF7:=hidden (HFR5.out.then b7)
    clear o7 b7
    go_wp2_with fail
    go_roundw
    case rel=>exact ⟨us++[x],x,_,_,by simp,rfl,by simp;omega,HUS.out.snoc HX.out,HX.out,HO7.out,HS7.out,HGO4.out,HF7.out⟩
    case measure=>simp [intOf];omega
  ·obtain rfl:us.length=m:=by omega
   have hgo2:=HGO.out
   rw [riseK_end] at hgo2
   have HGE:=hidden hgo2
   clear hgo2 HGO
   go_wp2_with fail
   go_ret
   exact ⟨us,b',f',⟨_,rfl,HO.out⟩,HUS.out,rfl,HST.out,HGE.out,HFR.out⟩
end Go.Proofs.YtpljdjmpamjkhaaGreatDoor
set_option linter.unusedVariables false
set_option linter.unusedSimpArgs false
namespace Go.Proofs.YtpljdjmpamjkhaaGreatDoor
open Go.RowKit Go.Lib
theorem rdU_length:∀ {q:Nat} {last:Int} {b r:List Nat} {u:List Int},rdU q last b=.ok (u,r)->u.length=q
 | 0,last,b,r,u,h=>by
  simp only [rdU,Except.ok.injEq,Prod.mk.injEq] at h
  rw [← h.1]
  rfl
 | q+1,last,b,r,u,h=>by
  rw [rdU] at h
  obtain ⟨d,q1,h1,h2⟩:=bindR_inv h
  split at h2
  ·simp at h2
  ·obtain ⟨m,q2,h3,h4⟩:=bindR_inv h2
   simp only [Except.ok.injEq,Prod.mk.injEq] at h4
   rw [← h4.1,List.length_cons,rdU_length h3]
def G3 (n:Nat) (G:List Int->List Nat->Except Nat (List Int×List Nat)) (u:List Int):List Nat->Except Nat (List Int×List Nat):=if n=0 then G [] else bindR (pkd n (blen (u.length-1))) (fun p=>bindR (picked u p) G)
theorem rd3_num (n:Nat) (G:List Int->List Nat->Except Nat (List Int×List Nat)):bindR (rd3 n) G=bindR num (fun many=>if n<many∨many=0/\0<n then (fun _=>.error 40) else
  if n=0 then G [] else bindR wh (fun x=>bindR (rdU (many-1) x) (fun u=>bindR (pkd n (blen (many-1))) (fun p=>bindR (picked (x::u) p) G)))):=by
 have:rd3 n=bindR num (fun many=>if n<many∨many=0/\0<n then (fun _=>.error 40) else if n=0 then (fun r=>.ok ([],r)) else
  bindR wh (fun x=>bindR (rdU (many-1) x) (fun u=>bindR (pkd n (blen (many-1))) (fun p r=>picked (x::u) p r)))):=by
  funext b
  rfl
 rw [this,bindR_assoc]
 congr 1
 funext many
 split
 ·rfl
 ·split
  ·rw [bindR_ok_left]
  ·rw [bindR_assoc]
   congr 1
   funext x
   rw [bindR_assoc]
   congr 1
   funext u
   rw [bindR_assoc]
theorem rd3_rise (n:Nat) (G:List Int->List Nat->Except Nat (List Int×List Nat)) (many:Nat) (hm:0<many) (hn:n≠0):(bindR wh (fun x=>bindR (rdU (many-1) x) (fun u=>bindR (pkd n (blen (many-1))) (fun p=>bindR (picked (x::u) p) G))))=riseK (G3 n G) many [] 0:=by
 unfold riseK
 rw [if_pos (show ([]:List Int).length=0 from rfl),if_neg (by omega)]
 congr 1
 funext x b
 unfold bindR
 cases h:rdU (many-1) x b with
 | error e=>rfl
 | ok y =>
  obtain ⟨u,r⟩:=y
  have hl:=rdU_length h
  simp only
  unfold G3
  rw [if_neg hn,List.length_cons,hl,Nat.add_sub_cancel]
  rfl
theorem unE_none (w:Nat):unE [] 0 w=0∨64<w:=by
 by_cases h:64<w
 ·exact Or.inr h
 ·left
  unfold unE
  rw [if_pos (by omega),if_pos (by simp [by8,pk])]
theorem Goes.none {D:Except Nat (List Int×List Nat)} {G:List Int->List Nat->Except Nat (List Int×List Nat)} (hG:∀ r:List Nat,r.length≠0->G [] r=.error 32) {b:List Nat} {f w:Nat} (hw:w<=64) (h:Goes D (G []) b f):Goes D (G []) (pkB 0 w b) (pkF 0 w b f):=by
 obtain ⟨h1,h2⟩:=h
 have e0:by8 (0*w)=0:=by simp [by8]
 have e1:unE [] 0 w=0:=by
  rcases unE_none w with h | h
  ·exact h
  ·omega
 unfold pkB pkF
 rw [e0,if_neg (by omega),if_neg (by omega),List.drop_zero,List.take_zero]
 rw [show unE [] ((0:Nat):Int) (w:Int)=0 from e1]
 by_cases hf:f=0
 ·subst hf
  rw [orf_zero]
  by_cases hb:b.length=0
  ·rw [if_pos hb,orf_zero]
   exact ⟨fun _=>h1 rfl,fun e=>absurd rfl e⟩
  ·rw [if_neg hb,orf_keep (by omega)]
   refine ⟨fun e=>by omega,fun _=>?_⟩
   rw [h1 rfl]
   exact hG b hb
 ·rw [orf_keep hf,orf_keep hf]
  exact ⟨fun e=>absurd e hf,h2⟩
theorem pkL_none {w:Nat} {b:List Nat}:pkL 0 w b=[]:=by
 have e0:by8 (0*w)=0:=by simp [by8]
 unfold pkL
 rw [e0,if_neg (by omega),List.take_zero]
 unfold unR
 split
 ·have:=dig_length w 0 (pk 8 [])
  apply List.eq_nil_of_length_eq_zero
  simpa using this
 ·rfl
theorem pkL_length {n w:Nat} {b:List Nat}:(pkL n w b).length<=n:=by
 unfold pkL
 split
 ·simp
 ·unfold unR
  split
  ·rw [dig_length];simp
  ·simp
theorem pkL_lt {n w:Nat} {b:List Nat}:∀ x∈pkL n w b,x<18446744073709551616:=by
 unfold pkL
 split
 ·simp
 ·exact unR_lt
theorem Goes.places {D:Except Nat (List Int×List Nat)} {n:Nat} {G:List Int->List Nat->Except Nat (List Int×List Nat)} (hG:∀ r:List Nat,r.length≠0->G [] r=.error 32) {u:List Int} {b:List Nat} {f:Nat} (hw:blen (u.length-1)<=64) (h:Goes D (G3 n G u) b f) :
  Goes D (bindR (picked u (pkL n (blen (u.length-1)) b)) G) (pkB n (blen (u.length-1)) b) (pkF n (blen (u.length-1)) b f):=by
 unfold G3 at h
 by_cases hn:n=0
 ·subst hn
  rw [if_pos rfl] at h
  have:=h.none hG hw
  have e:bindR (picked u (pkL 0 (blen (u.length-1)) b)) G=G []:=by
   rw [pkL_none]
   funext r
   unfold bindR picked
   rw [if_pos (by simp)]
   rfl
  rw [e]
  exact this
 ·rw [if_neg hn] at h
  exact h.pkd
theorem Goes.picks {D:Except Nat (List Int×List Nat)} {G:List Int->List Nat->Except Nat (List Int×List Nat)} {u:List Int} {P b:List Nat} {f:Nat} (h:Goes D (bindR (picked u P) G) b f) (hp:∀ q∈P,q<u.length):Goes D (G (P.map fun q=>u.getD q 0)) b f:=by
 have e:bindR (picked u P) G=G (P.map fun q=>u.getD q 0):=by
  funext r
  unfold bindR picked
  rw [if_pos hp]
 rwa [e] at h
theorem Goes.strays {D:Except Nat (List Int×List Nat)} {G:List Int->List Nat->Except Nat (List Int×List Nat)} {u:List Int} {P b:List Nat} {f:Nat} {K:List Nat->Except Nat (List Int×List Nat)} (h:Goes D (bindR (picked u P) G) b f) (hp:¬ ∀ q∈P,q<u.length):Goes D K b (orf f 40):=by
 obtain ⟨h1,h2⟩:=h
 by_cases hf:f=0
 ·subst hf
  rw [orf_zero]
  refine ⟨fun e=>by omega,fun _=>?_⟩
  rw [h1 rfl]
  unfold bindR picked
  rw [if_neg hp]
 ·rw [orf_keep hf]
  exact ⟨fun e=>absurd e hf,h2⟩
theorem blen_small {n:Nat} (h:n<=256):blen (n-1)<=64:=blen_le.2 (by
 have:(256:Nat)<2 ^ 64:=by decide
 omega)
theorem Sv.atU {W:World} {a:Option Addr} {n cap:Nat} {l:List Nat} (h:Sv W (.slice a n cap) (vals .u64 l)) {k:Nat} (hk:k<l.length) :
  ∃ b off,a=some ⟨b,off,none⟩/\b<W.heap.size/\W.cell? ⟨b,off+k,none⟩=some (.int .u64 (l[k]:Int)):=by
 obtain ⟨a',c,h1,h2,h3,h4,h5⟩:=h
 simp only [Value.slice.injEq] at h1
 obtain ⟨rfl,_,rfl⟩:=h1
 obtain ⟨b,off,h6,h7,h8⟩:=h5 (by rw [vals_length];omega)
 exact ⟨b,off,h6,h7,h8 k _ (vals_get hk)⟩
theorem places_any {D:Except Nat (List Int×List Nat)} {G:List Int->List Nat->Except Nat (List Int×List Nat)} (hG:∀ r:List Nat,r.length≠0->G [] r=.error 32) {w:World} {p n f:Nat} {b:List Nat} (h:StC 333 w p b f) (hn:n<=256) (hg:Goes D (bindR (rd3 n) G) b f) :
  Calls Tryz.prog 317 #[.pointer (some ⟨p,0,none⟩),.int .i64 (n:Int)] w (LPost D G p n w):=by
 have HS:=hidden h
 have HHG:=hidden hG
 have hlt:=h.lt
 obtain ⟨fw,hfw⟩:∃ fw:Nat,min n 1=fw:=⟨_,rfl⟩
 have hmin:min (n:Int) 1=(fw:Int):=by omega
 rw [rd3_num] at hg
 have hgo:=Goes.num (lo:=fw) (hi:=n) (fun v=>by constructor<;>(intro h;omega)) hg
 have HN1:=hidden (number_anyC h fw n (by omega) (by omega))
 have hkle:within fw n (gt b).1<=n:=by
  unfold within
  split<;>omega
 have hgo2:Goes D (riseK (G3 n G) (within fw n (gt b).1) [] 0) (b.drop (gt b).2.1) (withinF fw n (gt b).1 (orf f (gt b).2.2)):=by
  by_cases hn0:n=0
  ·subst hn0
   rw [if_pos rfl] at hgo
   have h0:within fw 0 (gt b).1=0:=by omega
   rw [h0]
   have e:riseK (G3 0 G) 0 [] 0=G []:=by
    unfold riseK G3
    rfl
   rw [e]
   exact hgo
  ·by_cases hc0:within fw n (gt b).1=0
   ·refine hgo.any ?_
    have:(gt b).1<fw∨n<(gt b).1:=by
     unfold within at hc0
     split at hc0
     ·assumption
     ·omega
    exact withinF_bad this
   ·rw [if_neg hn0,rd3_rise n G _ (by omega) hn0] at hgo
    exact hgo
 have HGO:=hidden hgo2
 clear h hg hgo hgo2 hfw hG
 generalize within fw n (gt b).1=cnt at *
 generalize withinF fw n (gt b).1 (orf f (gt b).2.2)=f1 at *
 generalize b.drop (gt b).2.1=b1 at *
 go_enter Tryz.func317,Tryz.ntmps317
 go_wp2_with fail
 refine HN1.out.mono ?_
 rintro e w1 ⟨rfl,hs1,hf1⟩
 have HS1:=hidden hs1
 have HF1:=hidden hf1
 have hz1:=hf1.size
 have hlt1:=hs1.lt
 clear hs1 hf1
 go_wp2_with fail
 refine (rising_any HS1.out (by omega) HGO.out).mono ?_
 rintro e w2 ⟨us,b2,f2,⟨v2,rfl,ho2⟩,hus,hul,hs2,hg2,hf2⟩
 subst hul
 have HO2:=hidden ho2
 have HUS:=hidden hus
 have HS2:=hidden hs2
 have HG2:=hidden hg2
 have HF2:=hidden (HF1.out.trans (hf2.mono hz1))
 have hz2:=hf2.size
 have hlt2:=hs2.lt
 obtain ⟨a2,c2,rfl⟩:=ho2.len
 clear ho2 hus hs2 hg2 hf2 HGO
 have hbw:=blen_small (n:=us.length) (by omega)
 go_wp2_with fail
 refine (placeWidth_any us.length (by omega) _).mono ?_
 rintro e w3 ⟨rfl,hb3⟩
 have HO3:=hidden (HO2.out.kept hb3)
 have HS3:=hidden (HS2.out.kept hb3 hlt2)
 have HF3:=hidden (HF2.out.then (hb3.mono (by omega)))
 have hz3:=hb3.size
 clear hb3
 have HG3:=hidden (HG2.out.places HHG.out hbw)
 have HPL:=hidden (pkL_length (n:=n) (w:=blen (us.length-1)) (b:=b2))
 have HPX:=hidden (pkL_lt (n:=n) (w:=blen (us.length-1)) (b:=b2))
 have HPK:=hidden (packed_any HS3.out n (blen (us.length-1)) hn hbw)
 clear HG2 hbw
 generalize pkL n (blen (us.length-1)) b2=P at *
 generalize pkB n (blen (us.length-1)) b2=b3 at *
 generalize pkF n (blen (us.length-1)) b2 f2=f3 at *
 generalize blen (us.length-1)=ww at *
 go_wp2_with fail
 refine HPK.out.mono ?_
 rintro e w4 ⟨⟨v4,rfl,ho4⟩,hs4,hf4⟩
 have HP4:=hidden ho4
 have HS4:=hidden hs4
 have HU4:=hidden (HO3.out.fr hf4 hlt1)
 have HF4:=hidden (HF3.out.trans (hf4.mono (by omega)))
 have hz4:=hf4.size
 have hlt4:=hs4.lt
 obtain ⟨a4,c4,rfl⟩:=ho4.len
 have hPl:=HPL.out
 clear ho4 hs4 hf4
 go_wp2_with fail
 go_loopw [8,30] (fun v i wr=>∃ k:Nat,k<=P.length/\i=.int .i64 (k:Int)/\(∀ q∈P.take k,q<us.length)/\OwnI wr w4.heap.size v ((P.take k).map fun q=>us.getD q 0)/\Below w4.heap.size w4 wr) (fun _ i _=>P.length-(intOf i).toNat)
 case atStart=>exact ⟨0,by omega,rfl,fun q hq=>by simp at hq,OwnI.nil _ _,Below.refl _ _⟩
 case round =>
  obtain ⟨k,hk,rfl,hall,how,hbel⟩:=hrel
  have HAL:=hidden hall
  have HO:=hidden how
  have HB:=hidden hbel
  have hzr:=hbel.size
  obtain ⟨av,cv,rfl⟩:=how.len
  clear hall how hbel
  by_cases hlk:k<P.length
  ·have hlk3:(k:Int)<(P.length:Int):=by omega
   obtain ⟨bp,op,hbp,hbp2,hckp⟩:=(HP4.out.kept HB.out).sv.atU hlk
   cases hbp
   have hqx:=HPX.out P[k] (List.getElem_mem hlk)
   have HTK:=hidden (List.take_succ_eq_append_getElem hlk)
   have HMEM:=hidden (List.getElem_mem hlk)
   by_cases hq:P[k]<us.length
   ·have hq2:¬ ((P[k]:Nat):Int)>=(us.length:Int):=by omega
    obtain ⟨bu,ou,hbu,hbu2,hcku⟩:=(HU4.out.kept HB.out).sv.at hq
    cases hbu
    have HGD:Hid (us.getD P[k] 0=us[P[k]]):=hidden (by simp [List.getD_eq_getElem?_getD,hq])
    have hyl:((P.take k).map fun q=>us.getD q 0).length<=256:=by rw [List.length_map,List.length_take];omega
    generalize us[P[k]]=x at *
    generalize P[k]=q at *
    obtain ⟨ys,hys⟩:∃ ys,((P.take k).map fun q=>us.getD q 0)=ys:=⟨_,rfl⟩
    rw [hys] at HO hyl ⊢
    have HYS:=hidden hys
    clear hys
    have HOA:=hidden (HO.out.kept ((Below.refl _ _).alloc (Nat.le_refl _) (.cells #[.int .i64 x] 2)))
    have HBA:=hidden (HB.out.alloc hzr (.cells #[.int .i64 x] 2))
    go_wp2_with (first | (at_builtin;refine wpList_append_i rfl _ _ rfl w4.heap.size _ _ x ys rfl HOA.out rfl ?c1 ?c2 ?c3 ?_))
    case c2=>omega
    case c3=>omega
    intro v7 w7 o7 b7
    have HO7:=hidden o7
    have HB7:=hidden (HBA.out.trans b7)
    clear o7 b7
    go_wp2_with fail
    go_roundw
    case rel =>
     refine ⟨k+1,by omega,by go_num,?_,?_,HB7.out⟩
     ·rw [HTK.out]
      intro q' hq'
      rcases List.mem_append.1 hq' with h | h
      ·exact HAL.out q' h
      ·rw [List.mem_singleton.1 h]
       exact hq
     ·rw [HTK.out,List.map_append,HYS.out,List.map_singleton,HGD.out]
      exact HO7.out
    case measure=>simp [intOf];omega
   ·have hq2:((P[k]:Nat):Int)>=(us.length:Int):=by omega
    have HBAD:Hid (¬ ∀ q∈P,q<us.length):=hidden (fun h=>hq (h _ HMEM.out))
    have HGE:=hidden (HG3.out.strays (K:=G []) HBAD.out)
    clear hq
    generalize P[k]=q at *
    go_wp2_with fail
    refine (refuse_anyC (HS4.out.kept HB.out hlt4) 40).mono ?_
    rintro e w8 ⟨rfl,hs8,hf8⟩
    have HS8:=hidden hs8
    have HF8:=hidden ((HF4.out.then (HB.out.mono (by omega))).trans (hf8.mono (by omega)))
    clear hs8 hf8
    go_wp2_with fail
    go_ret
    exact ⟨[],_,_,⟨_,rfl,OwnI.nil _ _⟩,fun x hx=>by simp at hx,by simp,HS8.out,HGE.out,HF8.out⟩
  ·obtain rfl:k=P.length:=by omega
   have hlk3:¬ (P.length:Int)<(P.length:Int):=by omega
   have hall:=HAL.out
   rw [List.take_length] at hall HO
   have HGE:=hidden (HG3.out.picks hall)
   have HFE:=hidden (HF4.out.then (HB.out.mono (by omega)))
   have hoe:=HO.out.low (show w.heap.size<=w4.heap.size by omega)
   rw [List.length_map] at hoe
   have HOE:=hidden hoe
   clear hoe
   have HISE:Hid (Is (P.map fun q=>us.getD q 0)):=hidden (fun y hy=>by
    obtain ⟨q,hq,rfl⟩:=List.mem_map.1 hy
    have:=hall q hq
    rw [List.getD_eq_getElem?_getD,List.getElem?_eq_getElem this]
    exact HUS.out _ (List.getElem_mem this))
   have HLE:Hid ((P.map fun q=>us.getD q 0).length<=n):=hidden (by rw [List.length_map];exact hPl)
   clear hall
   go_wp2_with fail
   go_ret
   exact ⟨_,_,_,⟨_,rfl,HOE.out⟩,HISE.out,HLE.out,HS4.out.kept HB.out hlt4,HGE.out,HFE.out⟩
end Go.Proofs.YtpljdjmpamjkhaaGreatDoor
set_option linter.unusedVariables false
set_option linter.unusedSimpArgs false
namespace Go.Proofs.YtpljdjmpamjkhaaGreatDoor
open Go.RowKit Go.Lib
theorem rd4_num (n:Nat) (hn:n≠0) (G:List Int->List Nat->Except Nat (List Int×List Nat)):bindR (rd4 n) G=bindR wh (fun x=>bindR num (fun w=>if 64<w then (fun _=>.error 40) else bindR (pkd n w) (fun p=>G (p.map (fun (q:Nat)=>w64 (x+(q:Int))))))):=by
 have:rd4 n=bindR wh (fun x=>bindR num (fun w=>if 64<w then (fun _=>.error 40) else bindR (pkd n w) (fun p r=>.ok (p.map (fun (q:Nat)=>w64 (x+(q:Int))),r)))):=by
  funext b
  unfold rd4
  rw [if_neg hn]
 rw [this,bindR_assoc]
 congr 1
 funext x
 rw [bindR_assoc]
 congr 1
 funext w
 split
 ·rfl
 ·rw [bindR_assoc]
  rfl
theorem rd4_none (G:List Int->List Nat->Except Nat (List Int×List Nat)):bindR (rd4 0) G=G []:=by
 have:rd4 0=fun b=>.ok ([],b):=by funext b;rfl
 rw [this,bindR_ok_left]
theorem heights_any {D:Except Nat (List Int×List Nat)} {G:List Int->List Nat->Except Nat (List Int×List Nat)} {w:World} {p n f:Nat} {b:List Nat} (h:StC 333 w p b f) (hn:n<=256) (hg:Goes D (bindR (rd4 n) G) b f) :
  Calls Tryz.prog 318 #[.pointer (some ⟨p,0,none⟩),.int .i64 (n:Int)] w (LPost D G p n w):=by
 have HS:=hidden h
 have hlt:=h.lt
 by_cases hn0:n=0
 ·subst hn0
  rw [rd4_none] at hg
  have HG:=hidden hg
  clear h hg
  go_enter Tryz.func318,Tryz.ntmps318
  go_wp2_with fail
  go_ret
  exact ⟨[],b,f,⟨_,rfl,OwnI.nil _ _⟩,fun x hx=>by simp at hx,by simp,HS.out,HG.out,Fr.refl _ _ _⟩
 ·have hn1:((n:Int)==0)=false:=beq_eq_false_iff_ne.2 (by omega)
  rw [rd4_num n hn0] at hg
  have hg1:=hg.wh
  have HX:=hidden (unzig_i64 (gt_form b).1)
  have HW:=hidden (whole_any h)
  clear h hg
  generalize unzig (gt b).1=x at *
  generalize b.drop (gt b).2.1=b1 at *
  generalize orf f (gt b).2.2=f1 at *
  have hg2:=Goes.num (lo:=0) (hi:=64) (fun v=>by constructor<;>(intro h;omega)) hg1
  have HN1:Hid (∀ W,StC 333 W p b1 f1->Calls Tryz.prog 321 #[.pointer (some ⟨p,0,none⟩),.int .u64 (0:Int),.int .u64 (64:Int)] W fun r w'=>r=.returned (.int .u64 (within 0 64 (gt b1).1:Int))/\StC 333 w' p (b1.drop (gt b1).2.1) (withinF 0 64 (gt b1).1 (orf f1 (gt b1).2.2))/\Fr p W.heap.size W w'):=fun W h=>number_anyC h 0 64 (by omega) (by omega)
  have hwle:within 0 64 (gt b1).1<=64:=by
   unfold within
   split<;>omega
  clear hg1 hn0
  generalize within 0 64 (gt b1).1=ww at *
  generalize withinF 0 64 (gt b1).1 (orf f1 (gt b1).2.2)=f2 at *
  generalize b1.drop (gt b1).2.1=b2 at *
  have HG3:=hidden hg2.pkd
  have HPL:=hidden (pkL_length (n:=n) (w:=ww) (b:=b2))
  have HPX:=hidden (pkL_lt (n:=n) (w:=ww) (b:=b2))
  have HPK:Hid (∀ W,StC 333 W p b2 f2->Calls Tryz.prog 323 #[.pointer (some ⟨p,0,none⟩),.int .i64 (n:Int),.int .i64 (ww:Int)] W fun r w'=>(∃ v,r=.returned v/\OwnU w' W.heap.size v (pkL n ww b2))/\StC 333 w' p (pkB n ww b2) (pkF n ww b2 f2)/\Fr p W.heap.size W w'):=fun W h=>packed_any h n ww hn hwle
  clear hg2
  generalize pkL n ww b2=P at *
  generalize pkB n ww b2=b3 at *
  generalize pkF n ww b2 f2=f3 at *
  go_enter Tryz.func318,Tryz.ntmps318
  go_wp2_with fail
  refine HW.out.mono ?_
  rintro e w1 ⟨rfl,hs1,hf1⟩
  have HS1:=hidden hs1
  have HF1:=hidden hf1
  have hz1:=hf1.size
  clear hs1 hf1
  go_wp2_with fail
  refine (HN1.out _ HS1.out).mono ?_
  rintro e w2 ⟨rfl,hs2,hf2⟩
  have HS2:=hidden hs2
  have HF2:=hidden (HF1.out.trans (hf2.mono hz1))
  have hz2:=hf2.size
  clear hs2 hf2
  go_wp2_with fail
  refine (HPK.out _ HS2.out).mono ?_
  rintro e w4 ⟨⟨v4,rfl,ho4⟩,hs4,hf4⟩
  have HP4:=hidden ho4
  have HS4:=hidden hs4
  have HF4:=hidden (HF2.out.trans (hf4.mono (by omega)))
  have hz4:=hf4.size
  have hlt4:=hs4.lt
  obtain ⟨a4,c4,rfl⟩:=ho4.len
  have hPl:=HPL.out
  clear ho4 hs4 hf4
  go_wp2_with fail
  go_loopw [7,22] (fun v i wr=>∃ k:Nat,k<=P.length/\i=.int .i64 (k:Int)/\OwnI wr w4.heap.size v ((P.take k).map fun (q:Nat)=>w64 (x+(q:Int)))/\Below w4.heap.size w4 wr) (fun _ i _=>P.length-(intOf i).toNat)
  case atStart=>exact ⟨0,by omega,rfl,OwnI.nil _ _,Below.refl _ _⟩
  case round =>
   obtain ⟨k,hk,rfl,how,hbel⟩:=hrel
   have HO:=hidden how
   have HB:=hidden hbel
   have hzr:=hbel.size
   obtain ⟨av,cv,rfl⟩:=how.len
   clear how hbel
   by_cases hlk:k<P.length
   ·have hlk3:(k:Int)<(P.length:Int):=by omega
    obtain ⟨bp,op,hbp,hbp2,hckp⟩:=(HP4.out.kept HB.out).sv.atU hlk
    cases hbp
    have hqx:=HPX.out P[k] (List.getElem_mem hlk)
    have HTK:=hidden (List.take_succ_eq_append_getElem hlk)
    have hyl:((P.take k).map fun (q:Nat)=>w64 (x+(q:Int))).length<=256:=by rw [List.length_map,List.length_take];omega
    generalize P[k]=q at *
    obtain ⟨y,hy⟩:∃ y,IntKind.i64.wrap (q:Int)=y:=⟨_,rfl⟩
    obtain ⟨z,hz⟩:∃ z,w64 (x+(q:Int))=z:=⟨_,rfl⟩
    have hyz:IntKind.i64.wrap (x+y)=z:=by
     rw [← hy,← hz,← wrap_w64,IntKind.wrap_i64,IntKind.wrap_i64,IntKind.wrap_i64]
     omega
    have HZ:=hidden hz
    obtain ⟨ys,hys⟩:∃ ys,((P.take k).map fun (q:Nat)=>w64 (x+(q:Int)))=ys:=⟨_,rfl⟩
    rw [hys] at HO hyl ⊢
    have HYS:=hidden hys
    clear hys hz
    have HOA:=hidden (HO.out.kept ((Below.refl _ _).alloc (Nat.le_refl _) (.cells #[.int .i64 z] 2)))
    have HBA:=hidden (HB.out.alloc hzr (.cells #[.int .i64 z] 2))
    go_wp2_with (first | (at_builtin;refine wpList_append_i rfl _ _ rfl w4.heap.size _ _ z ys rfl HOA.out rfl (cell_new _ _ _) ?c2 ?c3 ?_))
    case c2=>omega
    case c3=>first | omega | (rw [World.size_alloc];omega)
    intro v7 w7 o7 b7
    have HO7:=hidden o7
    have HB7:=hidden (HBA.out.trans b7)
    clear o7 b7
    go_wp2_with fail
    go_roundw
    case rel =>
     refine ⟨k+1,by omega,by go_num,?_,HB7.out⟩
     rw [HTK.out,List.map_append,HYS.out,List.map_singleton,HZ.out]
     exact HO7.out
    case measure=>simp [intOf];omega
   ·obtain rfl:k=P.length:=by omega
    have hlk3:¬ (P.length:Int)<(P.length:Int):=by omega
    rw [List.take_length] at HO
    have HFE:=hidden (HF4.out.then (HB.out.mono (by omega)))
    have hoe:=HO.out.low (show w.heap.size<=w4.heap.size by omega)
    rw [List.length_map] at hoe
    have HOE:=hidden hoe
    clear hoe
    have HISE:Hid (Is (P.map fun (q:Nat)=>w64 (x+(q:Int)))):=hidden (fun y hy=>by
     obtain ⟨q,hq,rfl⟩:=List.mem_map.1 hy
     exact w64_i64 _)
    have HLE:Hid ((P.map fun (q:Nat)=>w64 (x+(q:Int))).length<=n):=hidden (by rw [List.length_map];exact hPl)
    go_wp2_with fail
    go_ret
    exact ⟨_,_,_,⟨_,rfl,HOE.out⟩,HISE.out,HLE.out,HS4.out.kept HB.out hlt4,HG3.out,HFE.out⟩
theorem list_any {D:Except Nat (List Int×List Nat)} {G:List Int->List Nat->Except Nat (List Int×List Nat)} (hG:∀ r:List Nat,r.length≠0->G [] r=.error 32) {w:World} {p n f c:Nat} {b:List Nat} (h:StC 333 w p b f) (hn:n<=256) (hc:c<=4) (hg:Goes D (bindR (rdC c n) G) b f) :
  Calls Tryz.prog 307 #[.pointer (some ⟨p,0,none⟩),.int .u8 (c:Int),.int .i64 (n:Int)] w (LPost D G p n w):=by
 obtain rfl | rfl | rfl | rfl | rfl:c=0∨c=1∨c=2∨c=3∨c=4:=by omega
 ·have HC:=hidden (each_any h hn hg)
  clear h hg hG
  go_enter Tryz.func307,Tryz.ntmps307
  go_wp2_with fail
  refine HC.out.mono ?_
  rintro e w1 ⟨l,b',f',⟨v,rfl,ho⟩,hr⟩
  have HO:=hidden ho
  have HR:=hidden hr
  clear ho hr
  go_wp2_with fail
  go_ret
  exact ⟨l,b',f',⟨_,rfl,HO.out⟩,HR.out⟩
 ·have HC:=hidden (steps_any h hn hg)
  clear h hg hG
  go_enter Tryz.func307,Tryz.ntmps307
  go_wp2_with fail
  refine HC.out.mono ?_
  rintro e w1 ⟨l,b',f',⟨v,rfl,ho⟩,hr⟩
  have HO:=hidden ho
  have HR:=hidden hr
  clear ho hr
  go_wp2_with fail
  go_ret
  exact ⟨l,b',f',⟨_,rfl,HO.out⟩,HR.out⟩
 ·have HC:=hidden (runs_any h hn hg)
  clear h hg hG
  go_enter Tryz.func307,Tryz.ntmps307
  go_wp2_with fail
  refine HC.out.mono ?_
  rintro e w1 ⟨l,b',f',⟨v,rfl,ho⟩,hr⟩
  have HO:=hidden ho
  have HR:=hidden hr
  clear ho hr
  go_wp2_with fail
  go_ret
  exact ⟨l,b',f',⟨_,rfl,HO.out⟩,HR.out⟩
 ·have HC:=hidden (places_any hG h hn hg)
  clear h hg hG
  go_enter Tryz.func307,Tryz.ntmps307
  go_wp2_with fail
  refine HC.out.mono ?_
  rintro e w1 ⟨l,b',f',⟨v,rfl,ho⟩,hr⟩
  have HO:=hidden ho
  have HR:=hidden hr
  clear ho hr
  go_wp2_with fail
  go_ret
  exact ⟨l,b',f',⟨_,rfl,HO.out⟩,HR.out⟩
 ·have HC:=hidden (heights_any h hn hg)
  clear h hg hG
  go_enter Tryz.func307,Tryz.ntmps307
  go_wp2_with fail
  refine HC.out.mono ?_
  rintro e w1 ⟨l,b',f',⟨v,rfl,ho⟩,hr⟩
  have HO:=hidden ho
  have HR:=hidden hr
  clear ho hr
  go_wp2_with fail
  go_ret
  exact ⟨l,b',f',⟨_,rfl,HO.out⟩,HR.out⟩
end Go.Proofs.YtpljdjmpamjkhaaGreatDoor
