/- Fields of a schema in memory. Regions that draw, whose callees leave what lies there. Place, the document's Fit, Great. Contracts: isDigit, ofNames, nameMayBe. The cells of values, as in layer 1: which cell a value has, Check, Fix, the law's Value and Cell. -/
import Derived.Test.YtpljdjmpamjkhaaGreatDoorZad
import Derived.Test.YtpljdjmpamjkhaaGreatDoorZah
import Derived.Test.YtpljdjmpamjkhaaGreatDoorZab
import Derived.Test.YtpljdjmpamjkhaaGreatDoorZaf
import Derived.Test.YtpljdjmpamjkhaaGreatDoorZac
import Derived.Deep.Slices
set_option linter.unusedVariables false
set_option linter.unusedSimpArgs false
namespace Go.Proofs.YtpljdjmpamjkhaaGreatDoor
open Go.RowKit Go.Lib
def celF (f:Fd):List Value:=[.int .u32 (f.1:Int),.string f.2.1,.int .u8 (f.2.2.1:Int),.bool f.2.2.2]
def aggF (f:Fd):Value:=.agg #[.int .u32 (f.1:Int),.string f.2.1,.int .u8 (f.2.2.1:Int),.bool f.2.2.2]
def fvals (l:List Fd):List Value:=l.flatMap celF
theorem fvals_append (a b:List Fd):fvals (a++b)=fvals a++fvals b:=List.flatMap_append
theorem fvals_cons (c:Fd) (l:List Fd):fvals (c::l)=celF c++fvals l:=List.flatMap_cons
theorem fvals_length:∀ l:List Fd,(fvals l).length=l.length*4
 | []=>rfl
 | c::t=>by
  rw [fvals_cons,List.length_append,fvals_length t,List.length_cons]
  simp [celF]
  omega
theorem fvals_get:∀ {l:List Fd} {j:Nat} (h:j<l.length),(fvals l)[j*4]?=some (.int .u32 (l[j].1:Int))/\(fvals l)[j*4+1]?=some (.string l[j].2.1)/\(fvals l)[j*4+2]?=some (.int .u8 (l[j].2.2.1:Int))/\(fvals l)[j*4+3]?=some (.bool l[j].2.2.2)
 | c::t,0,h=>by simp [fvals_cons,celF]
 | c::t,j+1,h=>by
  have ih:=fvals_get (l:=t) (j:=j) (by simpa using h)
  rw [fvals_cons]
  have e:∀ k,(celF c++fvals t)[(j+1)*4+k]?=(fvals t)[j*4+k]?:=fun k=>by
   rw [List.getElem?_append_right (by simp [celF];omega)]
   simp only [celF,List.length_cons,List.length_nil]
   congr 1
   omega
  have e0:=e 0
  simp only [Nat.add_zero] at e0
  rw [e0,e 1,e 2,e 3]
  simpa using ih
theorem celF_oneCell (f:Fd):∀ u∈celF f,u.oneCell'=true:=by
 intro u hu
 unfold celF at hu
 simp only [List.mem_cons,List.not_mem_nil,or_false] at hu
 rcases hu with rfl | rfl | rfl | rfl<;>rfl
theorem fvals_oneCell (l:List Fd):∀ u∈fvals l,u.oneCell'=true:=by
 intro u hu
 obtain ⟨f,_,h⟩:=List.mem_flatMap.1 hu
 exact celF_oneCell f u h
theorem fvals_take (l:List Fd) (k:Nat):fvals (l.take k)=(fvals l).take (k*4):=by
 induction l generalizing k with
 | nil=>simp [fvals]
 | cons f t ih =>
  cases k with
  | zero=>simp [fvals]
  | succ k =>
   have hl:(celF f).length=4:=rfl
   rw [List.take_succ_cons,fvals_cons,fvals_cons,ih,List.take_append,hl,List.take_of_length_le (l:=celF f) (by rw [hl];omega)]
   congr 2
   omega
def Sf (W:World) (v:Value) (l:List Fd):Prop :=
 ∃ a cap,v=.slice a l.length cap/\l.length<=cap/\cap<=maxLen/\(a=none->cap=0)/\(0<l.length->∃ b off,a=some ⟨b,off,none⟩/\b<W.heap.size/\∀ j x,(fvals l)[j]?=some x->W.cell? ⟨b,off+j,none⟩=some x)
theorem Sf.kept {W W':World} {v:Value} {l:List Fd} (h:Sf W v l) (hb:Below W.heap.size W W'):Sf W' v l:=by
 obtain ⟨a,cap,h1,h2,h3,h0,h4⟩:=h
 refine ⟨a,cap,h1,h2,h3,h0,fun h0=>?_⟩
 obtain ⟨b,off,h5,h6,h7⟩:=h4 h0
 exact ⟨b,off,h5,Nat.lt_of_lt_of_le h6 hb.size,fun j x hj=>(hb.cell (p:=⟨b,off+j,none⟩) h6).trans (h7 j x hj)⟩
theorem Sf.nil (W:World):Sf W (.slice none 0 0) []:=⟨none,0,rfl,Nat.le_refl _,by unfold maxLen;omega,fun _=>rfl,fun h=>by simp at h⟩
theorem Sf.form {W:World} {v:Value} {l:List Fd} (h:Sf W v l):∃ a cap,v=.slice a l.length cap/\l.length<=cap/\cap<=9223372036854775807:=by
 obtain ⟨a,cap,h1,h2,h3,_⟩:=h
 exact ⟨a,cap,h1,h2,by unfold maxLen at h3;omega⟩
theorem Sf.at {W:World} {a:Option Addr} {n cap:Nat} {l:List Fd} (h:Sf W (.slice a n cap) l) {k:Nat} (hk:k<l.length) :
  ∃ b off,a=some ⟨b,off,none⟩/\b<W.heap.size/\W.cell? ⟨b,off+k*4,none⟩=some (.int .u32 (l[k].1:Int))/\W.cell? ⟨b,off+k*4+1,none⟩=some (.string l[k].2.1)/\W.cell? ⟨b,off+k*4+2,none⟩=some (.int .u8 (l[k].2.2.1:Int))/\W.cell? ⟨b,off+k*4+3,none⟩=some (.bool l[k].2.2.2):=by
 obtain ⟨a',cap',e,h1,h2,h0,h4⟩:=h
 simp only [Value.slice.injEq] at e
 obtain ⟨rfl,_,_⟩:=e
 obtain ⟨b,off,rfl,h5,h6⟩:=h4 (by omega)
 obtain ⟨c0,c1,c2,c3⟩:=fvals_get hk
 refine ⟨b,off,rfl,h5,h6 _ _ c0,?_,?_,?_⟩
 ·rw [Nat.add_assoc]
  exact h6 _ _ c1
 ·rw [Nat.add_assoc]
  exact h6 _ _ c2
 ·rw [Nat.add_assoc]
  exact h6 _ _ c3
theorem Sf.take {W:World} {a:Option Addr} {n cap:Nat} {l:List Fd} (h:Sf W (.slice a n cap) l) {k:Nat} (hk:k<=l.length):Sf W (.slice a k cap) (l.take k):=by
 obtain ⟨a',c,h1,h2,h3,h4,h5⟩:=h
 simp only [Value.slice.injEq] at h1
 obtain ⟨rfl,_,rfl⟩:=h1
 have hl:(l.take k).length=k:=by rw [List.length_take];omega
 refine ⟨_,cap,by rw [hl],by omega,h3,h4,fun h0=>?_⟩
 obtain ⟨b',off',h6,h7,h8⟩:=h5 (by omega)
 refine ⟨b',off',h6,h7,fun j x hj=>h8 j x ?_⟩
 rw [fvals_take,List.getElem?_take] at hj
 split at hj
 ·exact hj
 ·cases hj
def OwnF (W:World) (B:Nat) (v:Value) (l:List Fd):Prop:=W.ownsRow B 81 4 v l.length (fvals l)
theorem OwnF.nil (W:World) (B:Nat):OwnF W B (.slice none 0 0) []:=World.ownsRow_nil _ _ _ _
theorem OwnF.kept {w w':World} {B:Nat} {v:Value} {l:List Fd} (h:OwnF w B v l) (hb:Below w.heap.size w w'):OwnF w' B v l:=own_kept h hb
theorem OwnF.low {W:World} {B B':Nat} {v:Value} {l:List Fd} (h:OwnF W B' v l) (hb:B<=B'):OwnF W B v l:=own_low h hb
theorem OwnF.sf {W:World} {B:Nat} {v:Value} {l:List Fd} (h:OwnF W B v l):Sf W v l:=by
 rcases h with ⟨h0,⟨rfl,h1⟩ | ⟨g,cap,cur,rfl,h2,h3,h4,h5,h6,h7⟩⟩
 ·refine ⟨none,0,by rw [h1],by omega,by unfold maxLen;omega,fun _=>rfl,fun h=>by omega⟩
 ·refine ⟨_,cap,rfl,h4,h5,fun h=>by (cases h),fun _=>⟨g,0,rfl,(Array.getElem?_eq_some_iff.1 h3).1,fun j x hj=>?_⟩⟩
  rw [Nat.zero_add]
  simp only [World.cell?,h3]
  rw [← h7] at hj
  have hlt:=(List.getElem?_eq_some_iff.1 hj).1
  rw [List.length_take] at hlt
  rw [List.getElem?_take_of_lt (by omega)] at hj
  simpa using hj
theorem lit_fields (w:World) (l:List Fd) (hl:l.length<=maxLen):OwnF (w.alloc (.cells (fvals l).toArray 81)) w.heap.size (.slice (some ⟨w.heap.size,0,none⟩) l.length l.length) l:=by
 have:=World.ownsRow_lit (e:=81) (size:=4) w (fvals l).toArray l.length (base:=w.heap.size) (Nat.le_refl _) hl (by simp [fvals_length])
 exact this
theorem info81:(Tryz.prog.info? 81).map (fun i=>(i.zero,i.size,i.bytes))=some (some (.agg #[.int .u32 0,.string ⟨#[]⟩,.int .u8 0,.bool false]),4,32):=by kernel_rfl
theorem wpList_append_fs {w:World} {ops:Array Oper} {rest:List Oper} {o:Oper} {a:Act} {Q:Exit->Act->World->Prop} (hgd:o.guard=none) (s x:Operand)
  (ho:o.op=.call { callee:=.builtin .append,args:=#[s,x],argTypes:=#[23,23] })
  (base:Nat) (v vx:Value) (l0 l:List Fd) (hs:a.eval s=v) (hown:OwnF w base v l0) (hx:a.eval x=vx) (hsl:Sf w vx l)
  (hbytes:l0.length+l.length<=100000) (hbase:base<=w.heap.size)
  (h:∀ v' w',OwnF w' base v' (l0++l)->Below base w w'->wpList Tryz.prog ops Q rest (a.put o.dst v') w') :
  wpList Tryz.prog ops Q (o::rest) a w:=by
 obtain ⟨i0,hi,hz0,hz1',hz2⟩:=info_parts info81
 unfold OwnF at *
 obtain ⟨ad,cap,rfl,h1,h2,h3,h4⟩:=hsl
 cases ad with
 | none =>
  have hc:=h3 rfl
  subst hc
  have hl:l=[]:=List.eq_nil_of_length_eq_zero (by omega)
  subst hl
  refine wpList_plain hgd fun K hK=>?_
  have hr:=run_append_owned_none (P:=Tryz.prog) (w:=w) base 23 o.type 81 i0 4 Tryz.underlying23 hi v l0.length (fvals l0) hown
  unfold Oper.wp execOp
  simp only [ho,resolve,invoke,builtin,Sem.run_bind,Sem.run_pure,Result.andThen_ok,List.map_toArray,List.map_cons,List.map_nil,hs,hx,hr,List.length_nil]
  refine hK _ _ (h v w ?_ (Below.refl _ _))
  rw [List.append_nil]
  exact hown
 | some ad =>
  refine wpList_append_own_at (w:=w) hgd s x 23 ho base 81 i0 (.agg #[.int .u32 0,.string ⟨#[]⟩,.int .u8 0,.bool false]) 4 32 Tryz.underlying23 hi hz0 hz1' hz2 rfl (by decide) v l0.length (fvals l0) hs hown ad l.length cap (fvals l) hx (by rw [fvals_length]) ?_ (fvals_oneCell _) (by unfold maxLen;omega) (by omega) hbase ?_
  ·intro j u hu
   have hj:j<l.length*4:=by
    have:=(List.getElem?_eq_some_iff.1 hu).1
    rwa [fvals_length] at this
   obtain ⟨b,off,h5,_,h6⟩:=h4 (by omega)
   cases h5
   rw [addj]
   exact h6 j u hu
  ·intro v' w' o1 g1 _ _
   refine h v' w' ?_ ((Below.refl base w).grown g1 hbase (fun k hk=>(hown.lt k hk).1))
   rw [fvals_append,List.length_append]
   exact o1
theorem lit_one (w:World) (f:Fd):OwnF (w.alloc (.cells #[.int .u32 (f.1:Int),.string f.2.1,.int .u8 (f.2.2.1:Int),.bool f.2.2.2] 81)) w.heap.size (.slice (some ⟨w.heap.size,0,none⟩) 1 1) [f]:=lit_fields w [f] (by unfold maxLen;simp)
theorem str_eq (s t:ByteArray):(s.toList==t.toList)=decide (s=t):=by
 rw [Bool.eq_iff_iff]
 simp only [beq_iff_eq,decide_eq_true_eq]
 constructor
 ·intro h
  rw [ByteArray.toList_eq,ByteArray.toList_eq] at h
  exact lb_inj h
 ·intro h;rw [h]
end Go.Proofs.YtpljdjmpamjkhaaGreatDoor
set_option linter.unusedVariables false
set_option linter.unusedSimpArgs false
namespace Go.Proofs.YtpljdjmpamjkhaaGreatDoor
open Go.RowKit Go.Lib
def SubW (S:World->Prop):Type:={x:World // S x}
def SubW.w {S:World->Prop} (s:SubW S):World:=s.val
theorem SubW.ok {S:World->Prop} (s:SubW S):S s.w:=s.property
def SubW.mk {S:World->Prop} (x:World) (h:S x):SubW S:=⟨x,h⟩
theorem wp_region_still {P:Program} {id:Nat} {Q:Exit->Act->World->Prop} {a:Act} {w:World} {l:List Oper} {S:World->Prop} (hm:P.follows .mixedOrders=true) (hB:Region.lexB .any l.toArray=true) (hS:S w.drew)
  (h:wpQuiet P l.toArray (fun w'=>∃ s:SubW S,w'=s.w) (fun a'=>∀ w',(∃ s:SubW S,w'=s.w)->Q .normal a' w') l a):(Code.region id l.toArray true).wp P Q a w :=
 wp_region_quiet (C:=fun w'=>∃ s:SubW S,w'=s.w) hm hB ⟨SubW.mk _ hS,rfl⟩ (by simpa using h)
end Go.Proofs.YtpljdjmpamjkhaaGreatDoor
set_option linter.unusedVariables false
set_option linter.unusedSimpArgs false
set_option maxRecDepth 100000
set_option maxHeartbeats 4000000
namespace Go.Proofs.YtpljdjmpamjkhaaGreatDoor
open Go.RowKit Go.Lib
theorem cell_new4 (w:World) (x y z u:Value) (t:Nat):(w.alloc (.cells #[x,y,z,u] t)).cell? ⟨w.heap.size,0,none⟩=some x/\(w.alloc (.cells #[x,y,z,u] t)).cell? ⟨w.heap.size,1,none⟩=some y/\(w.alloc (.cells #[x,y,z,u] t)).cell? ⟨w.heap.size,2,none⟩=some z/\(w.alloc (.cells #[x,y,z,u] t)).cell? ⟨w.heap.size,3,none⟩=some u:=by
 have h:=heap_alloc_new w (.cells #[x,y,z,u] t)
 exact ⟨by rw [cell_block h];rfl,by rw [cell_block h];rfl,by rw [cell_block h];rfl,by rw [cell_block h];rfl⟩
theorem cell_new2 (w:World) (x y:Value) (t:Nat):(w.alloc (.cells #[x,y] t)).cell? ⟨w.heap.size,0,none⟩=some x/\(w.alloc (.cells #[x,y] t)).cell? ⟨w.heap.size,1,none⟩=some y:=by
 have h:=heap_alloc_new w (.cells #[x,y] t)
 exact ⟨by rw [cell_block h];rfl,by rw [cell_block h];rfl⟩
theorem sf_drewN {W:World} {v:Value} {l:List Fd} (h:Sf W v l) (n:Nat):Sf (W.drewN n) v l:=h.kept (below_drewN (Below.refl _ _) n)
theorem place_any {w:World} {v:Value} {l:List Fd} (hs:Sf w v l) (si id:Nat):Calls Tryz.prog 193 #[.agg #[.int .u32 (si:Int),v],.int .u32 (id:Int)] w fun e w'=>e=.returned (.tuple #[.int .i64 (((place l id).getD 0:Nat):Int),.bool (place l id).isSome])/\Below w.heap.size w w':=by
 obtain ⟨a,cap,rfl,hcap,hcm⟩:=hs.form
 have HB0:=hidden (below_one w (.cells #[.int .u32 (si:Int),.slice a l.length cap] 25))
 have HS:=hidden (hs.kept (below_one w (.cells #[.int .u32 (si:Int),.slice a l.length cap] 25)))
 have HP:Hid (place l id=placeF id 0 (l.drop 0)):=hidden rfl
 generalize place l id=P at *
 clear hs
 generalize hW:w.alloc (.cells #[.int .u32 (si:Int),.slice a l.length cap] 25)=W at *
 have hW':=hW
 obtain ⟨c0,c1⟩:=cell_new2 w (.int .u32 (si:Int)) (.slice a l.length cap) 25
 rw [hW] at c0 c1
 go_enter Tryz.func193,Tryz.ntmps193
 go_wp2_with fail
 try rw [hW]
 clear hW hW' c0 c1
 go_loopw [11] (fun i wr=>∃ k:Nat,k<=l.length/\i=.int .i64 (k:Int)/\P=placeF id k (l.drop k)/\Below W.heap.size W wr) (fun i _=>l.length-(intOf i).toNat)
 case atStart=>exact ⟨0,by omega,rfl,HP.out,Below.refl _ _⟩
 case round =>
  obtain ⟨k,hk,rfl,hfe,hbel⟩:=hrel
  have HF:=hidden hfe
  have HB:=hidden hbel
  have hzr:=hbel.size
  clear hfe hbel HP
  by_cases hlt:k<l.length
  ·obtain ⟨b,off,rfl,hb,x0,x1,x2,x3⟩:=(HS.out.kept HB.out).at hlt
   have HT:=hidden (HF.out.trans (placeF_step hlt))
   have hlt':(k:Int)<(l.length:Int):=by omega
   generalize l[k]=f at *
   obtain ⟨f0,f1,f2,f3⟩:=f
   simp only at *
   have HB2:=hidden (HB.out.trans ((below_one wr (.cells #[.int .u32 (f0:Int),.string f1,.int .u8 (f2:Int),.bool f3] 81)).mono hzr))
   by_cases hq:f0=id
   ·rw [if_pos hq] at HT
    have hq':((f0:Int)==(id:Int))=true:=by rw [hq];simp
    subst hq
    go_wp2_with fail
    go_ret2
    rw [HT.out]
    exact ⟨rfl,below_then HB0.out HB2.out⟩
   ·rw [if_neg hq] at HT
    have hq':((f0:Int)==(id:Int))=false:=beq_eq_false_iff_ne.2 (by omega)
    clear hq
    go_wp2_with fail
    go_roundw
    case rel=>exact ⟨k+1,by omega,by go_num,HT.out,HB2.out⟩
    case measure=>simp [intOf];omega
  ·obtain rfl:k=l.length:=by omega
   have hge:¬ ((l.length:Nat):Int)<(l.length:Int):=by omega
   have HT:=hidden (HF.out.trans (placeF_end l id))
   clear HF
   go_wp2_with fail
   go_ret2
   rw [HT.out]
   exact ⟨rfl,below_then HB0.out HB.out⟩
theorem refFit_any {w:World} {v rv:Value} {l:List Fd} {r:List Cl} (hs:Sf w v l) (hr:Sc w rv r) (si:Nat):Calls Tryz.prog 43 #[.agg #[.int .u32 (si:Int),v],rv] w fun e w'=>e=.returned (.int .i64 (fitM l r:Int))/\Below w.heap.size w w':=by
 obtain ⟨a,cap,rfl,hcap,hcm⟩:=hs.form
 obtain ⟨ra,rcap,rfl,hrcap,hrcm⟩:=hr.form
 have hrcm':rcap<=9223372036854775807:=by unfold maxLen at hrcm;omega
 have hb0:=below_one w (.cells #[.int .u32 (si:Int),.slice a l.length cap] 25)
 have HB0:=hidden hb0
 have HS:=hidden (hs.kept hb0)
 have HR:=hidden (hr.kept hb0)
 obtain ⟨c0,c1⟩:=cell_new2 w (.int .u32 (si:Int)) (.slice a l.length cap) 25
 have hz:w.heap.size<(w.alloc (.cells #[.int .u32 (si:Int),.slice a l.length cap] 25)).heap.size:=by rw [World.size_alloc];omega
 clear hs hr hb0 hrcm
 generalize hW:w.alloc (.cells #[.int .u32 (si:Int),.slice a l.length cap] 25)=W at *
 by_cases hne:r.length≠l.length
 ·have HM:Hid (fitM l r=1):=hidden (if_pos hne)
  have hne':((r.length:Int) != (l.length:Int))=true:=by simp only [bne_iff_ne];omega
  clear hne
  go_enter Tryz.func43,Tryz.ntmps43
  go_wp2_with fail
  go_ret
  rw [HM.out]
  refine ⟨rfl,?_⟩
  first | exact HB0.out | (rw [hW];exact HB0.out)
 ·have hrl:r.length=l.length:=by omega
  have HM:Hid (fitM l r=fitF (l.drop 0) (r.drop 0)):=hidden (if_neg hne)
  have HRL:=hidden hrl
  rw [hrl] at hrcap HR ⊢
  generalize fitM l r=R at *
  clear hne hrl
  go_enter Tryz.func43,Tryz.ntmps43
  go_wp2_with fail
  try rw [hW]
  clear hW
  go_loopw [5] (fun i wr=>∃ k:Nat,k<=l.length/\i=.int .i64 (k:Int)/\R=fitF (l.drop k) (r.drop k)/\Below W.heap.size W wr) (fun i _=>l.length-(intOf i).toNat)
  case atStart=>exact ⟨0,by omega,rfl,HM.out,Below.refl _ _⟩
  case round =>
   obtain ⟨k,hk,rfl,hfe,hbel⟩:=hrel
   have HF:=hidden hfe
   have HB:=hidden hbel
   have hzr:=hbel.size
   have d1:=(hbel.cell (p:=⟨w.heap.size,1,none⟩) hz).trans c1
   clear hfe hbel HM
   by_cases hlt:k<l.length
   ·obtain ⟨b,off,rfl,hb,x0,x1,x2,x3⟩:=(HS.out.kept HB.out).at hlt
    have hltr:k<r.length:=by have:=HRL.out;omega
    obtain ⟨rb,roff,rfl,hrb,y0,y1,y2⟩:=(HR.out.kept HB.out).at hltr
    have HT:=hidden (HF.out.trans (fitF_step hlt hltr))
    have hlt':(k:Int)<(l.length:Int):=by omega
    have hknn:(0:Int)<=(k:Int):=by omega
    have HQ:Hid (misM l[k] r[k]=if r[k].1=0 then (if l[k].2.2.2=true then 82 else 0) else if r[k].1≠l[k].2.2.1 then 10 else if 64<r[k].2.2.length then 5 else 0):=hidden rfl
    generalize misM l[k] r[k]=Q at *
    rw [txt_eq] at y2
    have hS:=bytesT_size r[k].2.2
    generalize bytesT r[k].2.2=S at *
    generalize r[k].2.2.length=cl at *
    generalize r[k].2.1=cn at *
    generalize r[k].1=ck at *
    generalize l[k].2.2.1=f2 at *
    generalize l[k].2.2.2=f3 at *
    have hbn:=below_one wr (.cells #[.int .u8 (ck:Int),.int .i64 cn,.string S] 52)
    have HB2:=hidden (HB.out.trans (hbn.mono hzr))
    have e1:=(hbn.cell (p:=⟨w.heap.size,1,none⟩) (show w.heap.size<_ by omega)).trans d1
    have e2:=(hbn.cell (p:=⟨b,off+k*4+2,none⟩) hb).trans x2
    have e3:=(hbn.cell (p:=⟨b,off+k*4+3,none⟩) hb).trans x3
    have hww:w.heap.size<wr.heap.size:=by omega
    clear hbn
    by_cases q0:ck=0
    ·have q0':((ck:Int)==0)=true:=by rw [q0];rfl
     rw [if_pos q0] at HQ
     clear q0
     cases f3
     ·rw [if_neg (by simp)] at HQ
      rw [if_pos HQ.out] at HT
      go_wp2_with fail
      go_roundw
      case rel=>exact ⟨k+1,by omega,by go_num,HT.out,HB2.out⟩
      case measure=>simp [intOf];omega
     ·rw [if_pos rfl] at HQ
      rw [HQ.out,if_neg (by omega)] at HT
      go_wp2_with fail
      go_ret
      rw [HT.out]
      exact ⟨rfl,below_then HB0.out HB2.out⟩
    ·have q0':((ck:Int)==0)=false:=beq_eq_false_iff_ne.2 (by omega)
     rw [if_neg q0] at HQ
     clear q0
     by_cases q1:ck=f2
     ·rw [if_neg (by simpa using q1)] at HQ
      have q1':((ck:Int) != (f2:Int))=false:=by simp [q1]
      clear q1
      by_cases q2:64<cl
      ·have q2':(S.size:Int) > 64:=by omega
       rw [if_pos q2] at HQ
       rw [HQ.out,if_neg (by omega)] at HT
       clear q2
       go_wp2_with fail
       go_quiet (fail)
       go_wp2_with fail
       go_ret
       rw [HT.out]
       exact ⟨rfl,below_drewN (below_then HB0.out HB2.out) _⟩
      ·have q2':¬ (S.size:Int) > 64:=by omega
       rw [if_neg q2] at HQ
       rw [if_pos HQ.out] at HT
       clear q2
       go_wp2_with fail
       go_quiet (fail)
       go_wp2_with fail
       go_roundw
       case rel=>exact ⟨k+1,by omega,by go_num,HT.out,below_drewN HB2.out _⟩
       case measure=>simp [intOf];omega
     ·rw [if_pos q1] at HQ
      have q1':((ck:Int) != (f2:Int))=true:=by simp only [bne_iff_ne];omega
      rw [HQ.out,if_neg (by omega)] at HT
      clear q1
      go_wp2_with fail
      go_quiet (fail)
      go_wp2_with fail
      go_ret
      rw [HT.out]
      exact ⟨rfl,below_drewN (below_then HB0.out HB2.out) _⟩
   ·obtain rfl:k=l.length:=by omega
    have hge:¬ ((l.length:Nat):Int)<(l.length:Int):=by omega
    have HT:=hidden (HF.out.trans (fitF_end l _))
    clear HF
    go_wp2_with fail
    go_ret
    rw [HT.out]
    exact ⟨rfl,below_then HB0.out HB.out⟩
def GreatPost (w:World) (l:List Fd) (e:Ending) (w':World):Prop:=(∃ g:Bool,e=.returned (.bool g)/\(g=false->l.length<=100/\szs l<5000))/\Below w.heap.size w w'
theorem great_any {w:World} {v:Value} {l:List Fd} (hs:Sf w v l) (id:Nat):Calls Tryz.prog 10 #[.agg #[.int .u32 (id:Int),v]] w (GreatPost w l):=by
 obtain ⟨a,cap,rfl,hcap,hcm⟩:=hs.form
 have HB0:=hidden (below_one w (.cells #[.int .u32 (id:Int),.slice a l.length cap] 25))
 have HS:=hidden (hs.kept (below_one w (.cells #[.int .u32 (id:Int),.slice a l.length cap] 25)))
 obtain ⟨c0,c1⟩:=cell_new2 w (.int .u32 (id:Int)) (.slice a l.length cap) 25
 clear hs
 generalize hW:w.alloc (.cells #[.int .u32 (id:Int),.slice a l.length cap] 25)=W at *
 go_enter Tryz.func10,Tryz.ntmps10
 go_wp2_with fail
 try rw [hW]
 clear hW
 go_loopw [3,4] (fun n i wr=>∃ k s:Nat,wr=W/\k<=l.length/\k<=100/\i=.int .i64 (k:Int)/\n=.int .i64 (s:Int)/\s<10000/\(s<5000->s=szs (l.take k))) (fun _ i _=>l.length-(intOf i).toNat)
 case atStart=>exact ⟨0,0,rfl,by omega,by omega,rfl,rfl,by omega,fun _=>by simp [szs]⟩
 case round =>
  obtain ⟨k,s,rfl,hk,hk100,rfl,rfl,hs1,hs2⟩:=hrel
  have HS2:=hidden hs2
  clear hs2
  by_cases hlt:k<l.length
  ·have hlt':(k:Int)<(l.length:Int):=by omega
   by_cases hk1:(k:Int)<100
   ·by_cases hs5:(s:Int)<5000
    ·obtain ⟨b,off,rfl,hb,x0,x1,x2,x3⟩:=HS.out.at hlt
     have HSZ:=hidden (szs_take_succ hlt)
     have HSE:=hidden (HS2.out (by omega))
     generalize l[k].2.1=nm at *
     have hmin:∃ q:Nat,min (nm.size:Int) 5000=(q:Int)/\q<=5000/\(q<5000->q=nm.size):=⟨min nm.size 5000,by omega,by omega,by omega⟩
     obtain h | h | h:(nm.size:Int)<5000∨(nm.size:Int)=5000∨(5000:Int)<(nm.size:Int):=by omega
     ·have h2:¬ (5000:Int)<(nm.size:Int):=by omega
      have h3:((nm.size:Int)==5000)=false:=beq_eq_false_iff_ne.2 (by omega)
      have h4:(nm.size:Int)<=5000:=by omega
      have h5:¬ (5000:Int)<=(nm.size:Int):=by omega
      clear hmin
      go_wp2_with fail
      go_roundw
      case rel=>exact ⟨k+1,s+nm.size,trivial,by omega,by omega,by go_num,by go_num,by omega,fun _=>by rw [HSZ.out,HSE.out]⟩
      case measure=>simp [intOf];omega
     ·clear hmin
      go_wp2_with fail
      go_roundw
      case rel=>exact ⟨k+1,s+5000,trivial,by omega,by omega,by go_num,by go_num,by omega,fun h=>by omega⟩
      case measure=>simp [intOf];omega
     ·have h2:¬ (nm.size:Int)<5000:=by omega
      have h3:((nm.size:Int)==5000)=false:=beq_eq_false_iff_ne.2 (by omega)
      have h4:(5000:Int)<=(nm.size:Int):=by omega
      have h5:¬ (nm.size:Int)<=5000:=by omega
      clear hmin
      go_wp2_with fail
      go_roundw
      case rel=>exact ⟨k+1,s+5000,trivial,by omega,by omega,by go_num,by go_num,by omega,fun h=>by omega⟩
      case measure=>simp [intOf];omega
    ·by_cases hl:(l.length:Int) > 100
     ·go_wp2_with fail
      go_ret
      exact ⟨⟨true,rfl,fun h=>by cases h⟩,HB0.out⟩
     ·have hs6:(s:Int)>=5000:=by omega
      go_wp2_with fail
      go_ret
      exact ⟨⟨true,rfl,fun h=>by cases h⟩,HB0.out⟩
   ·have hl:(l.length:Int) > 100:=by omega
    go_wp2_with fail
    go_ret
    exact ⟨⟨true,rfl,fun h=>by cases h⟩,HB0.out⟩
  ·obtain rfl:k=l.length:=by omega
   have hge:¬ ((l.length:Nat):Int)<(l.length:Int):=by omega
   have hl:¬ (l.length:Int) > 100:=by omega
   by_cases hs6:(s:Int)>=5000
   ·go_wp2_with fail
    go_ret
    exact ⟨⟨true,rfl,fun h=>by cases h⟩,HB0.out⟩
   ·have h2:=HS2.out
    rw [List.take_length] at h2
    have H2:=hidden (h2 (by omega))
    clear h2
    go_wp2_with fail
    go_ret
    exact ⟨⟨false,rfl,fun h=>⟨by omega,by rw [← H2.out];omega⟩⟩,HB0.out⟩
end Go.Proofs.YtpljdjmpamjkhaaGreatDoor
set_option linter.unusedVariables false
set_option linter.unusedSimpArgs false
set_option maxRecDepth 100000
set_option maxHeartbeats 2000000
namespace Go.Proofs.YtpljdjmpamjkhaaGreatDoor
open Go.RowKit Go.Lib
theorem isDigit_any (c:Nat) (w:World):Calls Tryz.prog 224 #[.int .i32 (c:Int)] w fun e w'=>e=.returned (.bool (digitB c))/\w'=w:=by
 by_cases h1:48<=(c:Int)
 ·by_cases h2:(c:Int)<=57
  ·have HN:Hid (digitB c=true):=hidden (decide_eq_true (by omega))
   go_enter Tryz.func224,Tryz.ntmps224
   go_wp2
   go_ret
   rw [HN.out]
   exact ⟨rfl,rfl⟩
  ·have HN:Hid (digitB c=false):=hidden (decide_eq_false (by omega))
   go_enter Tryz.func224,Tryz.ntmps224
   go_wp2
   go_ret
   rw [HN.out]
   exact ⟨rfl,rfl⟩
 ·have HN:Hid (digitB c=false):=hidden (decide_eq_false (by omega))
  go_enter Tryz.func224,Tryz.ntmps224
  go_wp2
  go_ret
  rw [HN.out]
  exact ⟨rfl,rfl⟩
theorem ofNames_any (c:Nat) (w:World):Calls Tryz.prog 223 #[.int .i32 (c:Int)] w fun e w'=>e=.returned (.bool (letterB c || digitB c))/\w'=w:=by
 have HD:=hidden (isDigit_any c)
 have HL:Hid (letterB c=(decide (97<=c/\c<=122) || decide (c=95) || decide (127<c))):=hidden rfl
 by_cases h1:97<=(c:Int)/\(c:Int)<=122
 ·obtain ⟨h1,h2⟩:=h1
  have HN:Hid ((letterB c || digitB c)=true):=hidden (by rw [HL.out,decide_eq_true (show 97<=c/\c<=122 by omega)];rfl)
  rw [HN.out]
  go_enter Tryz.func223,Tryz.ntmps223
  go_wp2
  go_ret
  exact ⟨rfl,rfl⟩
 ·have hh:¬ (97<=c/\c<=122):=by omega
  have HB:Hid ((letterB c || digitB c)=(digitB c || decide (c=95) || decide (127<c))):=hidden (by
   rw [HL.out,decide_eq_false hh]
   cases digitB c<;>cases decide (c=95)<;>cases decide (127<c)<;>rfl)
  rw [HB.out]
  clear hh
  generalize digitB c=dg at *
  have hcase:97<=(c:Int)/\¬ (c:Int)<=122∨¬ 97<=(c:Int):=by omega
  clear h1
  rcases hcase with ⟨h1,h2⟩ | h1
  all_goals
   go_enter Tryz.func223,Tryz.ntmps223
   go_wp2_with fail
   refine (HD.out _).mono ?_
   rintro e w1 ⟨rfl,rfl⟩
   cases dg
   ·by_cases h3:c=95
    ·have h3':((c:Int)==95)=true:=by simp;omega
     have HV:Hid ((false || decide (c=95) || decide (127<c))=true):=hidden (by rw [decide_eq_true h3];rfl)
     clear h3
     go_wp2_with fail
     go_ret
     rw [HV.out]
     exact ⟨rfl,rfl⟩
    ·have h3':((c:Int)==95)=false:=by simp;omega
     have HV:Hid ((false || decide (c=95) || decide (127<c))=decide (127<(c:Int))):=hidden (by
      rw [decide_eq_false h3]
      by_cases h4:127<c
      ·rw [decide_eq_true h4,decide_eq_true (by omega)];rfl
      ·rw [decide_eq_false h4,decide_eq_false (by omega)];rfl)
     clear h3
     go_wp2_with fail
     go_ret
     rw [HV.out]
     exact ⟨rfl,rfl⟩
   ·go_wp2_with fail
    go_ret
    exact ⟨rfl,rfl⟩
theorem offs_pos {u:List (Nat×Nat)} (h:∀ x∈u,1<=x.2) {k:Nat} (hk:k<=u.length):offs u k=0↔k=0:=by
 cases k with
 | zero=>simp
 | succ k =>
  cases u with
  | nil=>simp at hk
  | cons x t =>
   have:=h x (by simp)
   unfold offs
   simp
   omega
theorem at_zero {l:List UInt8} {p k:Nat} (h:At l p k):p=0↔k=0:=by
 rw [h.2.2.1]
 exact offs_pos (fun x hx=>(V_vr _ l (Nat.le_refl _) x hx).2) h.2.2.2
theorem good_step {l:List UInt8} {p k:Nat} (h:At l p k) (hp:p<l.length):goodFrom k ((V l).drop k)=(goodB k (unit (l.drop p)).1 && goodFrom (k+1) ((V l).drop (k+1))):=by
 have h1:=h.lt hp
 rw [h1,goodFrom_step,drop_succ h1]
theorem good_split (k c:Nat):goodB k c=((letterB c || digitB c) && !(decide (k=0) && digitB c)):=by
 unfold goodB
 by_cases hk:k=0
 ·subst hk
  have h1:digitB c=true->letterB c=false:=by
   unfold digitB letterB
   simp
   omega
  cases hd:digitB c
  ·simp
  ·rw [h1 hd];simp
 ·have:0<k:=by omega
  simp [hk,this]
theorem nameMayBe_any (s:ByteArray) (w:World):Calls Tryz.prog 197 #[.string s] w fun e w'=>e=.returned (.bool (named s))/\Below w.heap.size w w':=by
 have hL:=lb_size s
 by_cases h1:s.size=0
 ·have HN:Hid (named s=false):=hidden (by unfold named;rw [decide_eq_false (by omega)];rfl)
  rw [HN.out]
  have hs:s=⟨#[]⟩:=by
   apply lb_inj
   exact List.eq_nil_of_length_eq_zero (hL.trans h1)
  subst hs
  clear hL h1
  go_enter Tryz.func197,Tryz.ntmps197
  go_wp2_with fail
  go_ret
  exact ⟨rfl,Below.refl _ _⟩
 ·have hne:(s.toList==([]:List UInt8))=false:=by
   cases h:(s.toList==([]:List UInt8)) with
   | false=>rfl
   | true =>
    exfalso
    rw [beq_iff_eq,ByteArray.toList_eq] at h
    have:=congrArg List.length h
    have h3:s.size=0:=this
    omega
  have hne2:s.toList.isEmpty=false:=by
   cases h:s.toList with
   | nil=>rw [h] at hne;simp at hne
   | cons=>rfl
  by_cases h2:(s.size:Int) > 16
  ·have HN:Hid (named s=false):=hidden (by unfold named;rw [decide_eq_false (by omega)];rfl)
   rw [HN.out]
   clear h1
   go_enter Tryz.func197,Tryz.ntmps197
   go_wp2_with fail
   go_ret
   exact ⟨rfl,Below.refl _ _⟩
  ·have HN:Hid (named s=(clean (lb s) && goodFrom 0 (V (lb s)))):=hidden (by unfold named;rw [decide_eq_true (by omega)];rfl)
   rw [HN.out]
   have HC:=hidden (clean_any s (by omega))
   clear HN h1
   generalize clean (lb s)=cl at *
   go_enter Tryz.func197,Tryz.ntmps197
   go_wp2_with fail
   refine (HC.out _).mono ?_
   rintro e w1 ⟨rfl,hb1⟩
   have HB1:=hidden hb1
   clear hb1
   cases cl
   ·go_wp2_with fail
    go_ret
    exact ⟨rfl,HB1.out⟩
   ·go_wp2_with fail
    go_loopw [3,4] (fun i r w'=>∃ p k:Nat,w'=w1.iter s p/\At (lb s) p k/\goodFrom 0 (V (lb s))=goodFrom k ((V (lb s)).drop k)) (fun _ _ w'=>s.size-w'.iterPos w1.heap.size)
    case atStart=>exact ⟨0,0,rfl,At.zero _,rfl⟩
    case round =>
     obtain ⟨p,k,rfl,hat,hgd⟩:=hrel
     by_cases hp:p<s.size
     ·have hnx:∀ ty,(Instr.next (.pointer (some ⟨w1.heap.size,0,none⟩)) true ty).run Tryz.prog (w1.iter s p)=_:=fun ty=>run_next_any w1 s p ty hp
      rw [decode_lb] at hnx
      have hw:=unit_width _ (drop_ne (l:=lb s) (p:=p) (by omega))
      have HN:=hidden (hat.next (by omega))
      have HG:=hidden (hgd.trans (good_step hat (by omega)))
      have hz:=at_zero hat
      clear hat hgd
      generalize (unit ((lb s).drop p))=u at *
      obtain ⟨c,wd⟩:=u
      simp only at *
      have HS:=hidden (good_split k c)
      have HO:=hidden (ofNames_any c)
      have HD:=hidden (isDigit_any c)
      have HW:=hidden hw
      clear hw
      cases hlet:(letterB c || digitB c) with
      | false =>
       rw [hlet] at HO HS
       clear hz
       go_wp2_with fail
       refine (HO.out _).mono ?_
       rintro e w2 ⟨rfl,rfl⟩
       go_wp2_with fail
       go_ret
       refine ⟨?_,HB1.out.trans ((below_iter _ _ _).mono HB1.out.size)⟩
       rw [Bool.true_and,HG.out,HS.out]
       rfl
      | true =>
       rw [hlet] at HO HS
       by_cases hp0:p=0
       ·obtain rfl:k=0:=hz.1 hp0
        subst hp0
        clear hz
        cases hdg:digitB c with
        | false =>
         rw [hdg] at HD HS
         go_wp2_with fail
         refine (HO.out _).mono ?_
         rintro e w2 ⟨rfl,rfl⟩
         go_wp2_with fail
         refine (HD.out _).mono ?_
         rintro e w2 ⟨rfl,rfl⟩
         go_wp2_with fail
         go_roundw
         case rel=>exact ⟨_,1,rfl,by simpa using HN.out,by rw [HG.out,HS.out];rfl⟩
         case measure=>have:=HW.out;simp at this ⊢;omega
        | true =>
         rw [hdg] at HD HS
         go_wp2_with fail
         refine (HO.out _).mono ?_
         rintro e w2 ⟨rfl,rfl⟩
         go_wp2_with fail
         refine (HD.out _).mono ?_
         rintro e w2 ⟨rfl,rfl⟩
         go_wp2_with fail
         go_ret
         refine ⟨?_,HB1.out.trans ((below_iter _ _ _).mono HB1.out.size)⟩
         rw [Bool.true_and,HG.out,HS.out]
         rfl
       ·have hk0:¬ k=0:=fun h=>hp0 (hz.2 h)
        have hpb:((p:Int)==0)=false:=by simp [hp0]
        rw [decide_eq_false hk0] at HS
        clear hz hk0 hp0
        go_wp2_with fail
        refine (HO.out _).mono ?_
        rintro e w2 ⟨rfl,rfl⟩
        go_wp2_with fail
        go_roundw
        case rel=>exact ⟨_,k+1,rfl,HN.out,by rw [HG.out,HS.out];rfl⟩
        case measure=>have:=HW.out;simp at this ⊢;omega
     ·have hnx:∀ ty,(Instr.next (.pointer (some ⟨w1.heap.size,0,none⟩)) true ty).run Tryz.prog (w1.iter s p)=_:=fun ty=>run_next_end w1 s p ty hp
      have HE:Hid (k=(V (lb s)).length/\p=(lb s).length):=hat.end (by omega)
      clear hat
      have HG:=hidden hgd
      clear hgd
      go_wp2_with fail
      go_ret
      refine ⟨?_,HB1.out.trans ((below_iter _ _ _).mono HB1.out.size)⟩
      rw [Bool.true_and,HG.out,HE.out.1,List.drop_length]
      rfl
end Go.Proofs.YtpljdjmpamjkhaaGreatDoor
set_option linter.unusedVariables false
set_option linter.unusedSimpArgs false
namespace Go.Proofs.YtpljdjmpamjkhaaGreatDoor
open Go.RowKit Go.Lib
theorem lawCell_any {v:Value} {k n:Int} {s:ByteArray} (h:Val v k n s) (w:World):Calls Tryz.prog 76 #[v] w fun e w'=>e=.returned (.agg #[.int .u8 k,.int .i64 n,.string s])/\Below w.heap.size w w':=by
 have t1:=ta_2_2
 have t2:=ta_4_2
 have t3:=ta_4_4
 have t4:=ta_9_2
 have t5:=ta_9_4
 have t6:=ta_9_9
 have t7:=ta_n_2
 have t8:=ta_n_4
 have t9:=ta_n_9
 rcases h with ⟨rfl,rfl,rfl,rfl⟩ | ⟨rfl,rfl,rfl⟩ | ⟨b,rfl,rfl,rfl,rfl⟩ | ⟨rfl,rfl,rfl⟩
 ·go_enter Tryz.func76,Tryz.ntmps76
  go_wp2
  exact bodyPost_ret (v:=.agg #[.int .u8 0,.int .i64 0,.string ⟨#[]⟩]) (by simp [results,Tryz.results76,go_sem]) rfl ⟨rfl,(Below.refl _ _).alloc (Nat.le_refl _) _⟩
 ·go_enter Tryz.func76,Tryz.ntmps76
  go_wp2
  exact bodyPost_ret (v:=.agg #[.int .u8 1,.int .i64 n,.string ⟨#[]⟩]) (by simp [results,Tryz.results76,go_sem]) rfl ⟨rfl,(Below.refl _ _).alloc (Nat.le_refl _) _⟩
 ·cases b
  ·go_enter Tryz.func76,Tryz.ntmps76
   go_wp2
   exact bodyPost_ret (v:=.agg #[.int .u8 2,.int .i64 0,.string ⟨#[]⟩]) (by simp [results,Tryz.results76,go_sem]) rfl ⟨rfl,(Below.refl _ _).alloc (Nat.le_refl _) _⟩
  ·go_enter Tryz.func76,Tryz.ntmps76
   go_wp2
   exact bodyPost_ret (v:=.agg #[.int .u8 2,.int .i64 1,.string ⟨#[]⟩]) (by simp [results,Tryz.results76,go_sem]) rfl ⟨rfl,(Below.refl _ _).alloc (Nat.le_refl _) _⟩
 ·go_enter Tryz.func76,Tryz.ntmps76
  go_wp2
  exact bodyPost_ret (v:=.agg #[.int .u8 3,.int .i64 0,.string s]) (by simp [results,Tryz.results76,go_sem]) rfl ⟨rfl,(Below.refl _ _).alloc (Nat.le_refl _) _⟩
end Go.Proofs.YtpljdjmpamjkhaaGreatDoor
