/- Contracts: bytes.Clone, Unpack. Contract: read. Contract: all rows of a file. Contracts: Groups. -/
import Derived.Test.YtpljdjmpamjkhaaGreatDoorZaw
import Derived.Test.YtpljdjmpamjkhaaGreatDoorZbn
import Derived.Test.YtpljdjmpamjkhaaGreatDoorZbo
import Derived.BigRegion
import Derived.Test.YtpljdjmpamjkhaaGreatDoorZbl
import Derived.Test.YtpljdjmpamjkhaaGreatDoorZbm
set_option linter.unusedVariables false
set_option linter.unusedSimpArgs false
set_option maxRecDepth 100000
set_option maxHeartbeats 4000000
namespace Go.Proofs.YtpljdjmpamjkhaaGreatDoor
open Go.RowKit Go.Lib
theorem St.make {T:Nat} {w W:World} {a:Option Addr} {n cap:Nat} {b:List Nat} (hs:Sv w (.slice a n cap) (vals .u8 b)) (hb:Bs b) (hB:Below w.heap.size w W) :
  St T (W.alloc (.cells #[.slice a b.length cap,.int .i64 ((0:Nat):Int)] T)) W.heap.size b 0:=by
 obtain ⟨a',cap',e,h1,h2,h3,h4⟩:=hs
 simp only [Value.slice.injEq] at e
 obtain ⟨rfl,rfl,rfl⟩:=e
 rw [vals_length] at *
 refine ⟨a,cap,heap_alloc_new W _,h1,h2,hb,h3,fun h0=>?_⟩
 obtain ⟨g,off,e,hg,hc⟩:=h4 h0
 refine ⟨g,off,e,Nat.lt_of_lt_of_le hg hB.size,fun j hj=>?_⟩
 have hB':Below w.heap.size w (W.alloc (.cells #[.slice a b.length cap,.int .i64 ((0:Nat):Int)] T)):=hB.alloc hB.size _
 rw [hB'.cell (p:=⟨g,off+j,none⟩) hg]
 exact hc j _ (vals_get hj)
theorem clone_any {w:World} {v:Value} {l:List Nat} (hs:Sv w v (vals .u8 l)) (hl:l.length<=100000000) :
  Calls Tryz.prog 93 #[v] w (Told w l):=by
 have HS:=hidden hs
 obtain ⟨ad,cap,rfl,h1,h2,h3,_⟩:=hs
 rw [vals_length] at *
 cases ad with
 | none =>
  have hc:=h3 rfl
  subst hc
  have hl0:l=[]:=List.eq_nil_of_length_eq_zero (by omega)
  subst hl0
  have hq:(binOp .eql 30 (.slice none 0 0) (.slice none 0 0)).run Tryz.prog w=.ok (.bool true) w:=run_eql_slice_nil w 30 5 none 0 0 0 0 Tryz.underlying30
  go_enter Tryz.func93,Tryz.ntmps93
  go_wp2_with fail
  go_ret
  exact ⟨⟨_,rfl,OwnB.nil _ _⟩,Below.refl _ _⟩
 | some ad =>
  have HN:=hidden (lit_none w)
  have HS2:=hidden (HS.out.kept (below_one w (.cells #[] 5)))
  clear h3
  have hq:(binOp .eql 30 (.slice (some ad) l.length cap) (.slice none 0 0)).run Tryz.prog w=.ok (.bool false) w:=run_eql_slice_nil w 30 5 (some ad) l.length cap 0 0 Tryz.underlying30
  go_enter Tryz.func93,Tryz.ntmps93
  go_wp2_with (first | (at_builtin;refine wpList_append_sv rfl _ _ rfl w.heap.size _ _ [] l rfl ?q1 rfl ?q2 ?c1 ?c2 ?_))
  case q1=>exact HN.out
  case q2=>exact HS2.out
  case c1=>simp;omega
  case c2=>rw [World.size_alloc];omega
  intro v3 w3 o3 hb3
  have HO3:=hidden o3
  have HB3:=hidden ((below_one w (.cells #[] 5)).trans hb3)
  clear o3 hb3
  go_wp2_with fail
  go_ret
  exact ⟨⟨_,rfl,HO3.out⟩,HB3.out⟩
def unpR (b:List Nat):Nat×List Fd×List Nat×Nat :=
 match unpackM b with
 | .ok ((id,l),r)=>(id,l,r,0)
 | .error c=>(0,[],[],c)
theorem unpR_ok {b b':List Nat} {id:Nat} {l:List Fd} (h:Rds unpackM b 0 (id,l) b' 0):unpR b=(id,l,b',0):=by
 have e:=h.1 rfl
 rw [if_pos rfl] at e
 unfold unpR
 rw [e]
theorem unpR_error {b b':List Nat} {f id:Nat} {l:List Fd} (h:Rds unpackM b 0 (id,l) b' f) (hf:f≠0):unpR b=(0,[],[],f):=by
 have e:=h.1 rfl
 rw [if_neg hf] at e
 unfold unpR
 rw [e]
def UnpPost (w:World) (R:Nat×List Fd×List Nat×Nat) (e:Ending) (w':World):Prop :=
 (∃ v u,e=.returned (.tuple #[.agg #[.int .u32 (R.1:Int),v],u,.int .i64 (R.2.2.2:Int)])/\OwnF w' w.heap.size v R.2.1/\OwnB w' w.heap.size u R.2.2.1)/\Below w.heap.size w w'
def Shr {α : Type} (m:List Nat->Except Nat (α×List Nat)):Prop:=∀ b x r,m b=.ok (x,r)->r.length<=b.length
theorem Shr.bind {α β : Type} {m:List Nat->Except Nat (α×List Nat)} {k:α->List Nat->Except Nat (β×List Nat)} (h:Shr m) (hk:∀ x,Shr (k x)):Shr (bindR m k):=by
 intro b y r e
 cases hm:m b with
 | error c=>rw [bindR_error hm] at e;cases e
 | ok q =>
  obtain ⟨x,s⟩:=q
  rw [bindR_ok hm] at e
  exact Nat.le_trans (hk x s y r e) (h b x s hm)
theorem Shr.pure {α β : Type} (g:α->β) (x:α):Shr (fun r=>.ok (g x,r)):=by
 intro b y r e
 cases e
 exact Nat.le_refl _
theorem shr_num (room:Nat):Shr (numU room):=by
 intro b x r e
 unfold numU at e
 split at e
 ·cases e
 ·split at e
  ·cases e
  ·cases e
   rw [List.length_drop];omega
theorem shr_textR (n:Nat):Shr (textR n):=by
 intro b x r e
 unfold textR at e
 split at e
 ·cases e
 ·cases e
  rw [List.length_drop];omega
theorem shr_fld:Shr fldU:=(shr_num _).bind fun i=>((shr_num _).bind fun n=>shr_textR n).bind fun s=>(shr_num _).bind fun k=>(shr_num _).bind fun n=>Shr.pure (fun _:Nat=>(i,s,k,decide (n=1))) 0
theorem shr_flds:∀ n,Shr (fldsU n)
 | 0=>Shr.pure (fun _:Nat=>[]) 0
 | n+1=>(shr_flds n).bind fun l=>shr_fld.bind fun f=>Shr.pure (fun _:Nat=>l++[f]) 0
theorem shr_unpack:Shr unpackM :=
 ((shr_num _).bind fun i=>(shr_num _).bind fun n=>(shr_flds n).bind fun l=>Shr.pure (fun _:Nat=>(i,l)) 0).bind fun s=>by
  intro b x r e
  simp only at e
  split at e
  ·cases e;exact Nat.le_refl _
  ·cases e
theorem rds_len {b b1:List Nat} {F:Nat} {x:Nat×List Fd} (h:Rds unpackM b 0 x b1 F) (hF:F=0):b1.length<=b.length:=by
 have e:=h.1 rfl
 rw [if_pos hF] at e
 exact shr_unpack _ _ _ e
def Uns (w:World) (q:Nat) (W:World) (b:List Nat) (f id:Nat) (v:Value) (l:List Fd):Prop :=
 St 200 W (w.heap.size+1) b f/\w.heap.size+1<q/\W.heap[w.heap.size]?=some (.cells #[.int .u32 0,.slice none 0 0] 25 (0,0)) /\
 W.heap[q]?=some (.cells #[.int .u32 (id:Int),v] 25 (0,0))/\Below w.heap.size w W/\OwnF W (w.heap.size+2) v l
theorem Uns.size {w W:World} {q f id:Nat} {b:List Nat} {v:Value} {l:List Fd} (h:Uns w q W b f id v l):q<W.heap.size:=(Array.getElem?_eq_some_iff.1 h.2.2.2.1).1
theorem Uns.kept {w W W':World} {q f id:Nat} {b:List Nat} {v:Value} {l:List Fd} (h:Uns w q W b f id v l) (hb:Below W.heap.size W W'):Uns w q W' b f id v l:=by
 have hz:=h.size
 obtain ⟨h1,h2,h3,h4,h5,h6⟩:=h
 exact ⟨h1.kept hb h1.lt,h2,(hb.block _ (by omega)).trans h3,(hb.block _ (by omega)).trans h4,h5.trans (hb.mono h5.size),h6.kept hb⟩
theorem Uns.call {w W W':World} {q f f' id:Nat} {b b':List Nat} {v:Value} {l:List Fd} (h:Uns w q W b f id v l) (hs:St 200 W' (w.heap.size+1) b' f') (hf:Fr (w.heap.size+1) W.heap.size W W'):Uns w q W' b' f' id v l:=by
 have hz:=h.size
 obtain ⟨h1,h2,h3,h4,h5,h6⟩:=h
 exact ⟨hs,h2,(hf.block _ (by omega) (by omega)).trans h3,(hf.block _ (by omega) (by omega)).trans h4,h5.trans (hf.below (by omega) h5.size),Fr.own hf h6 (by omega)⟩
theorem Uns.facts {w W:World} {q f id:Nat} {b:List Nat} {v:Value} {l:List Fd} (h:Uns w q W b f id v l) :
  (W.cell? ⟨q,0,none⟩=some (.int .u32 (id:Int))/\W.cell? ⟨q,1,none⟩=some v) /\
  (W.cell? ⟨w.heap.size,0,none⟩=some (.int .u32 0)/\W.cell? ⟨w.heap.size,1,none⟩=some (.slice none 0 0)) /\
  (W.frozen? ⟨w.heap.size,0,none⟩=false/\W.frozen? ⟨w.heap.size,1,none⟩=false):=by
 obtain ⟨h1,h2,h3,h4,h5⟩:=h
 refine ⟨⟨?_,?_⟩,⟨?_,?_⟩,⟨?_,?_⟩⟩<;>first | (rw [cell_block h4];rfl) | (rw [cell_block h3];rfl) | (simp [World.frozen?,h3];done)
theorem rds_unp {b b1:List Nat} {f1 i:Nat} {l:List Fd} (h:Rds schU b 0 (i,l) b1 f1):Rds unpackM b 0 (i,l) b1 (orf f1 (chk i l)):=by
 unfold orf
 by_cases hf:f1=0
 ·rw [if_pos hf];subst hf;exact rds_unpack2 h
 ·rw [if_neg hf];exact h.bind (Rds.dead (i,l) hf)
theorem unpack_any {w:World} {v:Value} {b:List Nat} (hs:Sv w v (vals .u8 b)) (hb:Bs b) (hl:b.length<=90000000) :
  Calls Tryz.prog 96 #[v] w (UnpPost w (unpR b)):=by
 obtain ⟨a,cap,rfl,hcap,hcm⟩:=hs.form1
 rw [vals_length] at *
 have HS0:=hidden (St.make (T:=200) hs hb (below_one w (.cells #[.int .u32 0,.slice none 0 0] 25)))
 have hz0:(w.alloc (.cells #[.int .u32 0,.slice none 0 0] 25)).heap.size=w.heap.size+1:=World.size_alloc _ _
 have HH0:=hidden ((below_one (w.alloc (.cells #[.int .u32 0,.slice none 0 0] 25)) (.cells #[.slice a b.length cap,.int .i64 ((0:Nat):Int)] 200)).block w.heap.size (by omega) |>.trans (heap_alloc_new w _))
 have HB0:=hidden (((below_one w (.cells #[.int .u32 0,.slice none 0 0] 25))).alloc (by omega) (.cells #[.slice a b.length cap,.int .i64 ((0:Nat):Int)] 200))
 rw [hz0] at HS0
 clear hs
 have hzW:((w.alloc (.cells #[.int .u32 0,.slice none 0 0] 25)).alloc (.cells #[.slice a b.length cap,.int .i64 ((0:Nat):Int)] 200)).heap.size=w.heap.size+2:=by rw [World.size_alloc,hz0]
 have HZW:=hidden hzW
 clear hzW
 generalize hW:(w.alloc (.cells #[.int .u32 0,.slice none 0 0] 25)).alloc (.cells #[.slice a b.length cap,.int .i64 ((0:Nat):Int)] 200)=W at *
 have hW':(w.alloc (.cells #[.int .u32 0,.slice none 0 0] 25)).alloc (.cells #[.slice a b.length cap,.int .i64 0] 200)=W:=hW
 go_enter Tryz.func96,Tryz.ntmps96
 go_wp2_with fail
 try rw [hW']
 clear hW hW' hz0
 refine (schema_any HS0.out).mono ?_
 rintro e w3 ⟨id,l,v,b',f',rfl,ho3,hid,hll,hok,hs3,hr3,hf3⟩
 obtain ⟨va,vcap,hv,_,_⟩:=own_slice ho3
 subst hv
 have HU4:Hid (Uns w w3.heap.size (w3.alloc (.cells #[.int .u32 (id:Int),.slice va l.length vcap] 25)) b' f' id (.slice va l.length vcap) l):=by
  have hz:=HZW.out
  have hz3:=hf3.size
  have hb3:=below_one w3 (.cells #[.int .u32 (id:Int),.slice va l.length vcap] 25)
  refine hidden ⟨hs3.kept hb3 hs3.lt,by omega,(hb3.block _ (by omega)).trans ((hf3.block _ (by omega) (by omega)).trans HH0.out),heap_alloc_new w3 _,(HB0.out.trans (hf3.below (by omega) (by omega))).trans (hb3.mono (by omega)),?_⟩
  rw [hz] at ho3
  exact ho3.kept hb3
 have HR3:=hidden (rds_unp hr3)
 have HID:=hidden hid
 clear ho3 hs3 hr3 hf3 hok hid
 obtain ⟨⟨c0,c1⟩,⟨d0,d1⟩,⟨z0,z1⟩⟩:=HU4.out.facts
 have HQL:Hid (w3.heap.size<(w3.alloc (.cells #[.int .u32 (id:Int),.slice va l.length vcap] 25)).heap.size):=hidden (by rw [World.size_alloc];omega)
 go_wp2_with fail
 generalize hq:w3.heap.size=q at *
 generalize hX:w3.alloc (.cells #[.int .u32 (id:Int),.slice va l.length vcap] 25)=X at *
 try rw [hX]
 clear hX hq
 refine (check_sch HU4.out.2.2.2.2.2.sf id).mono ?_
 rintro e w5 ⟨rfl,hb5⟩
 have HU5:=hidden (HU4.out.kept hb5)
 clear hb5
 go_wp2_with fail
 refine (refuse_any HU5.out.1 (chk id l)).mono ?_
 rintro e w6 ⟨rfl,hs6,hf6⟩
 have HU6:=hidden (HU5.out.call hs6 hf6)
 clear hs6 hf6 c0 c1 d0 d1 z0 z1 HU5 HU4
 generalize orf f' (chk id l)=F at *
 obtain ⟨⟨c0,c1⟩,⟨d0,d1⟩,⟨z0,z1⟩⟩:=HU6.out.facts
 obtain ⟨ra,rcap,r0,r1,r2,r3,r4,r5,r6,_,_⟩:=HU6.out.1.cells2
 have HSV:=hidden r6
 have HQ:=hidden HU6.out.2.1
 have hne1:¬ w.heap.size=w.heap.size+1:=by omega
 have hne2:¬ w.heap.size+1=w.heap.size:=by omega
 have hne3:¬ w.heap.size=q:=by have:=HQ.out;omega
 have hne4:¬ q=w.heap.size:=by have:=HQ.out;omega
 clear r6 r4 r5
 by_cases hF:F=0
 ·have hFa:((F:Int) != 0)=false:=by simp [hF]
  have HBL:Hid (b'.length<=100000000):=hidden (by have:=rds_len HR3.out hF;omega)
  have HOKR:Hid (unpR b=(id,l,b',0)):=by
   have h:=HR3.out
   rw [hF] at h
   exact hidden (unpR_ok h)
  clear hF
  have HCL:Hid (∀ m,Calls Tryz.prog 93 #[.slice ra b'.length rcap] (w6.drewN m) fun e w'=>∃ u,e=.returned u/\OwnB w' (w.heap.size+1) u b'/\Uns w q w' b' F id (.slice va l.length vcap) l/\(w'.cell? ⟨q,0,none⟩=some (.int .u32 (id:Int))/\w'.cell? ⟨q,1,none⟩=some (.slice va l.length vcap))/\(w'.frozen? ⟨w.heap.size,0,none⟩=false/\w'.frozen? ⟨w.heap.size,1,none⟩=false)/\(w'.cell? ⟨w.heap.size,0,none⟩=some (.int .u32 0)/\w'.cell? ⟨w.heap.size,1,none⟩=some (.slice none 0 0))/\w'.cell? ⟨w.heap.size+1,0,none⟩=some (.slice ra b'.length rcap)):=hidden (fun m=>by
   have hbd:Below w6.heap.size w6 (w6.drewN m):=below_drewN (Below.refl w6.heap.size w6) m
   refine (clone_any (HSV.out.kept hbd) HBL.out).mono ?_
   rintro e w' ⟨⟨u,rfl,ou⟩,hb'⟩
   have hb2:=below_then hbd hb'
   have hu:=HU6.out.kept hb2
   obtain ⟨e0,e1,e2⟩:=hu.facts
   refine ⟨u,rfl,?_,hu,e0,e2,e1,(hb2.cell (p:=⟨w.heap.size+1,0,none⟩) HU6.out.1.lt).trans r0⟩
   have hz:w.heap.size+1<=(w6.drewN m).heap.size:=Nat.le_trans (Nat.le_of_lt HU6.out.1.lt) hbd.size
   exact own_low ou hz)
  go_wp2_with fail
  go_region_held3 (fun w'=>w'.cell? ⟨q,0,none⟩=some (.int .u32 (id:Int))/\w'.cell? ⟨q,1,none⟩=some (.slice va l.length vcap)/\w'.cell? ⟨w.heap.size+1,0,none⟩=some (.slice ra b'.length rcap)) (first | assumption | go_keep) (first
   | (go_at_call 93;refine (HCL.out _).mono ?_;rintro e w7 ⟨u7,rfl,o7,hu7,⟨g0,g1⟩,⟨g2,g3⟩,⟨g4,g5⟩,g6⟩;have HO7:=hidden o7;have HU7:=hidden hu7;clear o7 hu7))
  go_wp2_with fail
  refine bodyPost_ret (v:=.tuple #[.agg #[.int .u32 (id:Int),.slice va l.length vcap],u7,.int .i64 ((0:Nat):Int)]) (by simp [results,Tryz.results96,go_sem,g4,g5]) rfl ?_
  rw [HOKR.out]
  refine ⟨⟨_,_,rfl,(own_set2 HU7.out.2.2.2.2.2 (by omega) _ _).low (by omega),?_⟩,below_set2 HU7.out.2.2.2.2.1 (Nat.le_refl _) _ _⟩
  exact own_low (Fr.own (((Fr.refl w.heap.size w7.heap.size w7).set 0 _).set 1 _) HO7.out (by omega)) (by omega)
 ·have hFa:((F:Int) != 0)=true:=by simp [hF]
  have HER:=hidden (unpR_error HR3.out hF)
  clear hF
  go_wp2_with fail
  go_region
  go_wp2_with fail
  refine bodyPost_ret (v:=.tuple #[.agg #[.int .u32 ((0:Nat):Int),.slice none 0 0],.slice none 0 0,.int .i64 (F:Int)]) (by simp [results,Tryz.results96,go_sem,d0,d1]) rfl ?_
  rw [HER.out]
  exact ⟨⟨_,_,rfl,OwnF.nil _ _,OwnB.nil _ _⟩,(below_set2 HU6.out.2.2.2.2.1 (Nat.le_refl _) _ _).drew⟩
end Go.Proofs.YtpljdjmpamjkhaaGreatDoor
set_option linter.unusedVariables false
set_option linter.unusedSimpArgs false
set_option maxRecDepth 100000
set_option maxHeartbeats 4000000
namespace Go.Proofs.YtpljdjmpamjkhaaGreatDoor
open Go.RowKit Go.Lib
theorem readF_spl_none {b:List Nat} (h:spl b=none):readF b=none:=by
 unfold spl at h
 unfold readF
 split
 ·rfl
 ·next h4 =>
  rw [if_neg h4] at h
  split
  ·rfl
  ·next h5 =>
   rw [if_neg h5] at h
   cases h
theorem readF_spl {b c f:List Nat} (h:spl b=some (c,f)):readF b=match unpackM f with
  | .error _=>none
  | .ok ((id,fs),r)=>if (restF fs c r).2.2.2=true then none else some (id,fs,valW 1 64 (rstW r),(restF fs c r).1):=by
 unfold spl at h
 unfold readF
 split
 ·next h4 =>
  rw [if_pos h4] at h
  cases h
 ·next h4 =>
  rw [if_neg h4] at h
  split
  ·next h5 =>
   rw [if_pos h5] at h
   cases h
  ·next h5 =>
   rw [if_neg h5] at h
   simp only [Option.some.injEq,Prod.mk.injEq] at h
   obtain ⟨rfl,rfl⟩:=h
   rfl
theorem spl_bs {b c f:List Nat} (h:spl b=some (c,f)) (h8:Bs b):Bs c/\Bs f/\c.length<=b.length/\f.length<=b.length:=by
 unfold spl at h
 split at h
 ·cases h
 ·split at h
  ·cases h
  ·simp only [Option.some.injEq,Prod.mk.injEq] at h
   obtain ⟨rfl,rfl⟩:=h
   refine ⟨h8.take _,(h8.take _).drop _,by rw [List.length_take];omega,by rw [List.length_drop,List.length_take];omega⟩
def NeR {α : Type} (m:List Nat->Except Nat (α×List Nat)):Prop:=∀ b c,m b=.error c->c≠0
theorem NeR.bind {α β : Type} {m:List Nat->Except Nat (α×List Nat)} {k:α->List Nat->Except Nat (β×List Nat)} (h:NeR m) (hk:∀ x,NeR (k x)):NeR (bindR m k):=by
 intro b c e
 cases hm:m b with
 | error d =>
  rw [bindR_error hm] at e
  cases e
  exact h b _ hm
 | ok q =>
  obtain ⟨x,s⟩:=q
  rw [bindR_ok hm] at e
  exact hk x s c e
theorem NeR.num (n:Nat):NeR (numU n):=by
 intro b c e
 unfold numU at e
 split at e
 ·next h=>cases e;exact h
 ·split at e
  ·cases e;decide
  ·cases e
theorem NeR.textR (n:Nat):NeR (textR n):=by
 intro b c e
 unfold Go.Proofs.YtpljdjmpamjkhaaGreatDoor.textR at e
 split at e
 ·cases e;decide
 ·cases e
theorem NeR.fld:NeR fldU:=(NeR.num _).bind fun i=>((NeR.num _).bind fun n=>NeR.textR n).bind fun s=>(NeR.num _).bind fun k=>(NeR.num _).bind fun n=>fun b c e=>by cases e
theorem NeR.flds:∀ n,NeR (fldsU n)
 | 0=>fun b c e=>by cases e
 | n+1=>(NeR.flds n).bind fun l=>NeR.fld.bind fun f=>fun b c e=>by cases e
theorem unpackM_ne:NeR unpackM :=
 ((NeR.num _).bind fun i=>(NeR.num _).bind fun n=>(NeR.flds n).bind fun l=>fun b c e=>by cases e).bind fun s=>by
  intro b c e
  simp only at e
  split at e
  ·cases e
  ·next h=>cases e;exact h
def BsR {α : Type} (m:List Nat->Except Nat (α×List Nat)):Prop:=∀ b x r,m b=.ok (x,r)->Bs b->Bs r
theorem BsR.bind {α β : Type} {m:List Nat->Except Nat (α×List Nat)} {k:α->List Nat->Except Nat (β×List Nat)} (h:BsR m) (hk:∀ x,BsR (k x)):BsR (bindR m k):=by
 intro b y r e hb
 cases hm:m b with
 | error c=>rw [bindR_error hm] at e;cases e
 | ok q =>
  obtain ⟨x,s⟩:=q
  rw [bindR_ok hm] at e
  exact hk x s y r e (h b x s hm hb)
theorem BsR.pure {α : Type} (x:α):BsR (fun b=>.ok (x,b)):=fun b y r e hb=>by cases e;exact hb
theorem BsR.num (n:Nat):BsR (numU n):=by
 intro b x r e hb
 unfold numU at e
 split at e
 ·cases e
 ·split at e
  ·cases e
  ·cases e;exact hb.drop _
theorem BsR.textR (n:Nat):BsR (textR n):=by
 intro b x r e hb
 unfold Go.Proofs.YtpljdjmpamjkhaaGreatDoor.textR at e
 split at e
 ·cases e
 ·cases e;exact hb.drop _
theorem BsR.fld:BsR fldU:=(BsR.num _).bind fun i=>((BsR.num _).bind fun n=>BsR.textR n).bind fun s=>(BsR.num _).bind fun k=>(BsR.num _).bind fun n=>BsR.pure _
theorem BsR.flds:∀ n,BsR (fldsU n)
 | 0=>BsR.pure _
 | n+1=>(BsR.flds n).bind fun l=>BsR.fld.bind fun f=>BsR.pure _
theorem unpackM_bs:BsR unpackM :=
 ((BsR.num _).bind fun i=>(BsR.num _).bind fun n=>(BsR.flds n).bind fun l=>BsR.pure _).bind fun s=>by
  intro b x r e hb
  simp only at e
  split at e
  ·cases e;exact hb
  ·cases e
theorem unpR_cases (f:List Nat):(∃ c,unpackM f=.error c/\c≠0/\unpR f=(0,[],[],c))∨∃ id fs r,unpackM f=.ok ((id,fs),r)/\unpR f=(id,fs,r,0):=by
 unfold unpR
 cases h:unpackM f with
 | error c=>exact .inl ⟨c,rfl,unpackM_ne f c h,rfl⟩
 | ok q =>
  obtain ⟨⟨id,fs⟩,r⟩:=q
  exact .inr ⟨id,fs,r,rfl,rfl⟩
theorem read10_any {w:World} {v:Value} {b:List Nat} (hs:Sv w v (vals .u8 b)) (h8:Bs b) (hl:b.length<=80000000) (hw:Within w.heap.size v) :
  Calls Tryz.prog 53 #[v] w fun e w'=>((readF b=none/\∃ fp g,e=.returned (.tuple #[.pointer fp,.int .i64 g,.bool false])) ∨
   ∃ id fs g gs fp fv,readF b=some (id,fs,g,gs)/\e=.returned (.tuple #[.pointer (some ⟨fp,0,none⟩),.int .i64 ((g:Nat):Int),.bool true])/\Fil w' w.heap.size fp id fv gs/\OwnF w' w.heap.size fv fs)/\Below w.heap.size w w':=by
 have HSP:=hidden (split_any hs h8 (by omega) hw)
 obtain ⟨va,vc,rfl,_,_⟩:=hs.form1
 rw [vals_length] at *
 cases hsp:spl b with
 | none =>
  have HN:=hidden (readF_spl_none hsp)
  rw [hsp] at HSP
  clear hs h8 hsp
  go_enter Tryz.func53,Tryz.ntmps53
  go_wp2_with fail
  refine HSP.out.mono ?_
  rintro e w1 ⟨⟨v1,v2,rfl,_⟩,hb1⟩
  have HB1:=hidden hb1
  clear hb1
  go_wp2_with fail
  go_ret3
  exact ⟨.inl ⟨HN.out,_,_,rfl⟩,HB1.out⟩
 | some cf =>
  obtain ⟨c,f⟩:=cf
  have HRF:=hidden (readF_spl hsp)
  obtain ⟨q1,q2,q3,q4⟩:=spl_bs hsp h8
  rw [hsp] at HSP
  have HC:=hidden (unpR_cases f)
  have HQ1:=hidden q1
  have HQ2:=hidden q2
  have HUN:=hidden (fun (U:World) (v2:Value) (hU:Sv U v2 (vals .u8 f))=>unpack_any hU q2 (by omega))
  generalize unpR f=R at *
  obtain ⟨R1,R2,R3',R4⟩:=R
  clear hs h8 hsp q1 q2
  go_enter Tryz.func53,Tryz.ntmps53
  go_wp2_with fail
  refine HSP.out.mono ?_
  rintro e w1 ⟨⟨v1,v2,rfl,hsv⟩,hb1⟩
  obtain ⟨s1,s2,s3,s4⟩:=hsv c f rfl
  have HB1:=hidden hb1
  have HS1:=hidden s1
  have HW1:=hidden s3
  have HU2:=hidden (HUN.out w1 v2 s2)
  clear hb1 hsv s1 s2 s3 s4 HUN
  go_wp2_with fail
  refine HU2.out.mono ?_
  rintro e w2 ⟨⟨fv,u,rfl,hof,hou⟩,hb2⟩
  have hB2:=below_then HB1.out hb2
  obtain ⟨a1,k1,e1,_,_⟩:=HS1.out.form1
  obtain ⟨a2,k2,e2,_,_⟩:=hou.sv.form1
  obtain ⟨a3,k3,e3,_,_⟩:=hof.sf.form
  rw [vals_length] at e1 e2
  subst e1 e2 e3
  simp only at *
  rcases HC.out with ⟨er,hu1,hu2,hu3⟩ | ⟨id,fs,r,hu1,hu3⟩
  ·have HN:Hid (readF b=none):=hidden (by rw [HRF.out,hu1])
   obtain ⟨rfl,rfl,rfl,rfl⟩:R1=0/\R2=[]/\R3'=[]/\R4=er:=by simpa using hu3
   have hne:((R4:Int) != 0)=true:=by
    have:(R4:Int)≠0:=by omega
    simpa using this
   have HB2:=hidden hB2
   clear hu1 hu2 hu3 hof hou hb2 hB2 HRF HC
   go_wp2_with fail
   go_ret3
   exact ⟨.inl ⟨HN.out,_,_,rfl⟩,below_then HB2.out (below_one _ _)⟩
  ·obtain ⟨rfl,rfl,rfl,rfl⟩:R1=id/\R2=fs/\R3'=r/\R4=0:=by simpa using hu3
   have hBr:=unpackM_bs f _ _ hu1 HQ2.out
   obtain ⟨hchk,_,_⟩:=unpackM_inv hu1
   have HKK:=hidden (chk_kinds hchk)
   obtain ⟨_,_,hf8,_⟩:=chk_rise hchk
   have HE:Hid (readF b=if (restF R2 c R3').2.2.2=true then none else some (R1,R2,valW 1 64 (rstW R3'),(restF R2 c R3').1)):=hidden (by rw [HRF.out,hu1])
   have hbA:=below_one w2 (.cells #[.int .u32 (R1:Int),.slice a3 R2.length k3] 25)
   have hbB:=below_one (w2.alloc (.cells #[.int .u32 (R1:Int),.slice a3 R2.length k3] 25)) (.cells #[.slice a1 c.length k1,.slice a2 R3'.length k2,.bool false] 157)
   have hAB:=below_then hbA hbB
   have sA:(w2.alloc (.cells #[.int .u32 (R1:Int),.slice a3 R2.length k3] 25)).heap.size=w2.heap.size+1:=World.size_alloc _ _
   have hx:=heap_alloc_new (w2.alloc (.cells #[.int .u32 (R1:Int),.slice a3 R2.length k3] 25)) (.cells #[.slice a1 c.length k1,.slice a2 R3'.length k2,.bool false] 157)
   rw [sA] at hx
   have hw12:w.heap.size<=w2.heap.size:=hB2.size
   have hfb:∀ i,(Value.slice a3 R2.length k3).ownBlock=some i->i<w2.heap.size+1:=fun i hi=>by have:=(ownG_block hof hi).2.1;omega
   have hR3:R3 ((w2.alloc (.cells #[.int .u32 (R1:Int),.slice a3 R2.length k3] 25)).alloc (.cells #[.slice a1 c.length k1,.slice a2 R3'.length k2,.bool false] 157)) (w2.heap.size+1) c R3' false :=
    ⟨a1,k1,a2,k2,hx,⟨(HS1.out.kept hb2).kept hAB,fun i hi=>by have:=HW1.out i hi;omega,HQ1.out⟩,hou.sv.kept hAB,fun i hi=>by have:=(ownG_block hou hi).2.1;omega,hBr⟩
   have HFI:=hidden (r3file_any hR3 (hof.sf.kept hAB) hfb HKK.out R1 hf8 (by omega))
   have HBW:=hidden (below_then hB2 hAB)
   have HOF:=hidden (hof.kept hAB)
   have HFB:=hidden hfb
   have HSW:=hidden hw12
   have HSA:Hid (((w2.alloc (.cells #[.int .u32 (R1:Int),.slice a3 R2.length k3] 25)).alloc (.cells #[.slice a1 c.length k1,.slice a2 R3'.length k2,.bool false] 157)).heap.size=w2.heap.size+2):=hidden (by rw [World.size_alloc,World.size_alloc])
   have HS01:=hidden HB1.out.size
   clear hu1 hu3 hof hou hb2 hB2 HRF HC hBr hchk hbA hbB hAB sA hx hR3 hfb
   go_wp2_with fail
   generalize (w2.alloc (.cells #[.int .u32 (R1:Int),.slice a3 R2.length k3] 25)).alloc (.cells #[.slice a1 c.length k1,.slice a2 R3'.length k2,.bool false] 157)=W4 at *
   refine HFI.out.mono ?_
   rintro e w4 ⟨fp,rfl,⟨c',f',hr4⟩,hfil,hf4⟩
   have HBE:Hid (Below w.heap.size w w4):=hidden (HBW.out.trans (hf4.below (by omega) (by have:=HSA.out;omega)))
   have HOE:Hid (OwnF w4 w.heap.size (.slice a3 R2.length k3) R2):=hidden (by
    have h1:OwnF w4 w1.heap.size (.slice a3 R2.length k3) R2:=ownG_same HOF.out fun k hk=>hf4.block k (by have:=HFB.out k hk;have:=HSA.out;omega) (by have:=HFB.out k hk;omega)
    exact ⟨h1.1,h1.2.imp (fun x=>x) fun ⟨g,cap,cur,hv,hb,r⟩=>⟨g,cap,cur,hv,Nat.le_trans HS01.out hb,r⟩⟩)
   have HFL:Hid ((restF R2 c R3').2.2.2=false->Fil w4 w.heap.size fp R1 (.slice a3 R2.length k3) (restF R2 c R3').1):=hidden (fun h=>(hfil h).low (by have:=HSA.out;omega))
   obtain ⟨_,_,_,_,⟨_,_,r2⟩,⟨_,_,r3⟩,_,_⟩:=hr4.cells
   clear hr4 hfil hf4
   cases hF:(restF R2 c R3').2.2.2
   ·rw [hF] at r2 HE HFL
    have HFL2:=hidden (HFL.out rfl)
    have HE2:Hid (readF b=some (R1,R2,valW 1 64 (rstW R3'),(restF R2 c R3').1)):=hidden (by rw [HE.out,if_neg (by decide)])
    clear hF HE HFL
    go_wp2_with fail
    go_quiet (fail)
    go_wp2_with fail
    go_ret3
    exact ⟨.inr ⟨_,_,_,_,_,_,HE2.out,rfl,HFL2.out.kept (below_drewN (Below.refl _ _) _),HOE.out.kept (below_drewN (Below.refl _ _) _)⟩,below_drewN HBE.out _⟩
   ·rw [hF] at r2 HE
    have HE2:Hid (readF b=none):=hidden (by rw [HE.out,if_pos rfl])
    clear hF HE HFL
    go_wp2_with fail
    go_quiet (fail)
    go_wp2_with fail
    go_ret3
    exact ⟨.inl ⟨HE2.out,_,_,rfl⟩,below_drewN HBE.out _⟩
end Go.Proofs.YtpljdjmpamjkhaaGreatDoor
set_option linter.unusedVariables false
set_option linter.unusedSimpArgs false
set_option maxRecDepth 100000
set_option maxHeartbeats 4000000
namespace Go.Proofs.YtpljdjmpamjkhaaGreatDoor
open Go.RowKit Go.Lib
theorem Gro.rows {W:World} {B:Nat} {a b:Value} {rows:List Row} {sts:List Stt} (h:Gro W B (.agg #[a,b]) rows sts) :
  ∃ R,a=.slice (some ⟨R,0,none⟩) rows.length rows.length/\B<=R/\R<W.heap.size/\(∃ va vn vc,b=.slice va vn vc)/\∀ i (h:i<rows.length),∃ rv,W.cell? ⟨R,i,none⟩=some rv/\OwnV W B rv rows[i]:=by
 obtain ⟨R,rvs,vs,e,h1,h2,h3⟩:=h
 simp only [Value.agg.injEq,Array.mk.injEq,List.cons.injEq,and_true] at e
 obtain ⟨rfl,rfl⟩:=e
 obtain ⟨b1,b2,_⟩:=ownG_block h1 (k:=R) rfl
 refine ⟨R,rfl,b1,b2,own_slice3 h3,fun i hi=>?_⟩
 obtain ⟨rv,e1,e2⟩:=h2 i hi
 obtain ⟨g,e,_,_,hc⟩:=own_cell3 h1 e1
 cases e
 exact ⟨rv,hc,e2⟩
theorem allR_take {gs:List Gr} {j:Nat} (h:j<gs.length):allR (gs.take (j+1))=allR (gs.take j)++gs[j].1:=by
 unfold allR
 rw [List.take_succ_eq_append_getElem h,List.map_append,List.flatten_append]
 simp
theorem allR_mem {gs:List Gr} {j:Nat} (h:j<gs.length) {r:Row} (hr:r∈gs[j].1):r∈allR gs:=by
 unfold allR
 exact List.mem_flatten.2 ⟨gs[j].1,List.mem_map.2 ⟨gs[j],List.getElem_mem h,rfl⟩,hr⟩
theorem allR_take_len (gs:List Gr) (j:Nat):(allR (gs.take j)).length<=(allR gs).length:=by
 have:allR gs=allR (gs.take j)++allR (gs.drop j):=by
  unfold allR
  rw [← List.flatten_append,← List.map_append,List.take_append_drop]
 rw [this,List.length_append]
 omega
theorem all10_any {w:World} {B fp id:Nat} {fv:Value} {gs:List Gr} (h:Fil w B fp id fv gs) (hlen:∀ r∈allR gs,r.length<=1000) (htot:(allR gs).length<=100000) :
  Calls Tryz.prog 23 #[.pointer (some ⟨fp,0,none⟩)] w fun e w'=>(∃ v l,e=.returned v/\Ow w' w.heap.size v l/\l.map Prod.snd=allR gs)/\Below w.heap.size w w':=by
 obtain ⟨gv,xs,h1,h2,h3,h4⟩:=h
 obtain ⟨ga,gc,rfl,hgc,hgm⟩:=own_form3 h3
 have c2:w.cell? ⟨fp,2,none⟩=some (.slice ga gs.length gc):=by rw [cell_block h1];rfl
 have HG:Hid (∀ k (hk:k<gs.length),∃ G R va vn vc,ga=some ⟨G,0,none⟩/\gs[k].1.length<=100000/\∀ W,Below w.heap.size w W->W.cell? ⟨G,k*2,none⟩=some (.slice (some ⟨R,0,none⟩) gs[k].1.length gs[k].1.length)/\W.cell? ⟨G,k*2+1,none⟩=some (.slice va vn vc) /\
   ∀ i (h:i<gs[k].1.length),∃ ra rc,W.cell? ⟨R,i,none⟩=some (.slice ra gs[k].1[i].length rc)/\gs[k].1[i].length<=1000/\Sv W (.slice ra gs[k].1[i].length rc) (vvals gs[k].1[i])):=hidden (fun k hk=>by
  obtain ⟨a,b,e1,e2,e3⟩:=h4 k hk
  obtain ⟨R,rfl,g1,g2,⟨va,vn,vc,rfl⟩,g4⟩:=e3.rows
  obtain ⟨G,rfl,_,hG,hc1⟩:=own_cell3 h3 e1
  obtain ⟨_,e,_,_,hc2⟩:=own_cell3 h3 e2
  cases e
  have hr:=allR_take hk
  have hr2:=allR_take_len gs (k+1)
  rw [hr,List.length_append] at hr2
  refine ⟨G,R,va,vn,vc,rfl,by omega,fun W hb=>⟨(hb.cell (p:=⟨G,k*2,none⟩) hG).trans (by rw [Nat.mul_comm];exact hc1),(hb.cell (p:=⟨G,k*2+1,none⟩) hG).trans (by rw [Nat.mul_comm k];exact hc2),fun i hi=>?_⟩⟩
  obtain ⟨rv,f1,f2⟩:=g4 i hi
  have fs:=f2.sv
  obtain ⟨ra,rc,rfl,_,_⟩:=fs.form1
  rw [vvals_length] at *
  exact ⟨ra,rc,(hb.cell (p:=⟨R,i,none⟩) g2).trans f1,hlen _ (allR_mem hk (List.getElem_mem hi)),fs.kept hb⟩)
 have HT:=hidden (fun j=>allR_take_len gs j)
 have HTS:=hidden (fun j (h:j<gs.length)=>allR_take h)
 have HTA:Hid (allR (gs.take gs.length)=allR gs):=hidden (by rw [List.take_length])
 have HT0:Hid (allR (gs.take 0)=[]):=hidden rfl
 have HTOT:=hidden htot
 clear h1 h2 h3 h4 hlen htot
 go_enter Tryz.func23,Tryz.ntmps23
 go_wp2_with fail
 go_loopw [3,13] (fun a i wr=>∃ (k:Nat) (l:List (Value×Row)),i=.int .i64 (k:Int)/\k<=gs.length/\Ow wr w.heap.size a l/\l.map Prod.snd=allR (gs.take k)/\Below w.heap.size w wr) (fun _ i _=>gs.length-(intOf i).toNat)
 case atStart=>exact ⟨0,[],rfl,by omega,Ow.nil _ _,HT0.out.symm,Below.refl _ _⟩
 case round =>
  obtain ⟨k,l,rfl,hk,how,hsn,hbel⟩:=hrel
  have HB:=hidden hbel
  have HO:=hidden how
  have HSN:=hidden hsn
  obtain ⟨la,lc,rfl,hl1,hl2,_⟩:=how.form
  clear hbel how hsn
  by_cases hlt:k<gs.length
  ·obtain ⟨G,R,va,vn,vc,rfl,hgl,hcells⟩:=HG.out k hlt
   obtain ⟨ca,cb,_⟩:=hcells wr HB.out
   have HC:=hidden hcells
   have hlt':(k:Int)<(gs.length:Int):=by omega
   have hBW:Below w.heap.size w (wr.alloc (.cells #[.slice (some ⟨R,0,none⟩) gs[k].1.length gs[k].1.length,.slice va vn vc] 109)):=HB.out.alloc HB.out.size _
   have HBW:=hidden hBW
   obtain ⟨cg,_⟩:=cell_new2 wr (.slice (some ⟨R,0,none⟩) gs[k].1.length gs[k].1.length) (.slice va vn vc) 109
   have HCG:=hidden cg
   have hOW:=(HO.out.kept (below_one wr (.cells #[.slice (some ⟨R,0,none⟩) gs[k].1.length gs[k].1.length,.slice va vn vc] 109)))
   have HOW:=hidden hOW
   have HKS:=hidden (HTS.out k hlt)
   have HKL:=hidden (HT.out (k+1))
   clear hcells hBW hOW cg
   go_wp2_with fail
   generalize wr.alloc (.cells #[.slice (some ⟨R,0,none⟩) gs[k].1.length gs[k].1.length,.slice va vn vc] 109)=WA at *
   have HLL:Hid (∀ m,(allR (gs.take k)++gs[k].1.take m).length<=100000):=hidden (fun m=>by
    have h1:=HKS.out
    have h2:=HKL.out
    have h3:=HTOT.out
    rw [h1,List.length_append] at h2
    rw [List.length_append,List.length_take]
    omega)
   clear HO ca cb
   go_loopw [3,20] (fun a i wx=>∃ (m:Nat) (l2:List (Value×Row)),i=.int .i64 (m:Int)/\m<=gs[k].1.length/\Ow wx w.heap.size a l2/\l2.map Prod.snd=allR (gs.take k)++gs[k].1.take m/\Below w.heap.size w wx) (fun _ i _=>gs[k].1.length-(intOf i).toNat)
   case atStart=>exact ⟨0,l,rfl,by omega,HOW.out,by rw [List.take_zero,List.append_nil];exact HSN.out,HBW.out⟩
   case round =>
    obtain ⟨m,l2,rfl,hm,how2,hsn2,hbel2⟩:=hrel
    have HB2:=hidden hbel2
    have HO2:=hidden how2
    have HSN2:=hidden hsn2
    obtain ⟨la2,lc2,rfl,hl12,hl22,_⟩:=how2.form
    have hz2:=hbel2.size
    have hl2n:l2.length<=100000:=by
     have h1:=congrArg List.length hsn2
     have h2:=HLL.out m
     rw [List.length_map] at h1
     omega
    clear hbel2 how2 hsn2
    by_cases hmt:m<gs[k].1.length
    ·have hmt':(m:Int)<(gs[k].1.length:Int):=by omega
     obtain ⟨_,_,hcr⟩:=HC.out _ HB2.out
     obtain ⟨ra,rc,hrc,hrl,hrs⟩:=hcr m hmt
     have HTK:Hid (gs[k].1.take (m+1)=gs[k].1.take m++[gs[k].1[m]]):=hidden (List.take_succ_eq_append_getElem hmt)
     have HCL:=hidden (cloneV_any hrs hrl)
     generalize gs[k].1[m]=r at *
     clear hcr hrs
     go_wp2_with fail
     refine HCL.out.mono ?_
     rintro e w3 ⟨⟨v3,rfl,ho3⟩,hb3⟩
     have HV3:=hidden ho3
     have HO3:=hidden (HO2.out.kept hb3)
     have HB3:=hidden (HB2.out.trans (hb3.mono hz2))
     have hz3:=hb3.size
     obtain ⟨ra',rc',rfl,_,_⟩:=own_form3 ho3
     have HCN:=hidden (cell_new w3 (.slice ra' r.length rc') 79)
     clear hb3 ho3 HCL HO2
     go_wp2_with (first | (at_builtin;refine wpList_append_w rfl _ _ rfl w.heap.size _ _ l2 [(.slice ra' r.length rc',r)] rfl (HO3.out.kept (below_one _ _)) rfl (sv_lit1 HCN.out (by rw [World.size_alloc];omega)) ?c1 ?c2 ?c3 ?_))
     case c1 =>
      intro x hx
      rw [List.mem_singleton.1 hx]
      exact (HV3.out.kept (below_one _ _)).of_le (by omega)
     case c2=>simp only [List.length_singleton];omega
     case c3=>rw [World.size_alloc];omega
     intro v' w5 o5 b5
     have HO5:=hidden o5
     have HB5:=hidden ((HB3.out.alloc (by omega) _).trans b5)
     clear o5 b5
     go_wp2_with fail
     go_roundw
     case rel=>exact ⟨m+1,_,by go_num,by omega,HO5.out,by rw [HTK.out,List.map_append,HSN2.out,List.append_assoc];rfl,HB5.out⟩
     case measure=>simp [intOf];omega
    ·obtain rfl:m=gs[k].1.length:=by omega
     have hge:¬ ((gs[k].1.length:Nat):Int)<(gs[k].1.length:Int):=by omega
     have HSN3:Hid (l2.map Prod.snd=allR (gs.take (k+1))):=hidden (by rw [HKS.out,HSN2.out,List.take_length])
     go_wp2_with fail
     go_roundw
     case rel=>exact ⟨k+1,l2,by go_num,by omega,HO2.out,HSN3.out,HB2.out⟩
     case measure=>simp [intOf];omega
  ·obtain rfl:k=gs.length:=by omega
   have hge:¬ ((gs.length:Nat):Int)<(gs.length:Int):=by omega
   have HSN3:Hid (l.map Prod.snd=allR gs):=hidden (HSN.out.trans HTA.out)
   go_wp2_with fail
   go_ret
   first | exact ⟨⟨_,_,rfl,HO.out,HSN3.out⟩,HB.out⟩ | exact ⟨⟨_,rfl,_,HO.out,HSN3.out⟩,HB.out⟩
end Go.Proofs.YtpljdjmpamjkhaaGreatDoor
set_option linter.unusedVariables false
set_option linter.unusedSimpArgs false
set_option maxRecDepth 100000
set_option maxHeartbeats 2000000
namespace Go.Proofs.YtpljdjmpamjkhaaGreatDoor
open Go.RowKit Go.Lib
theorem groups10_any {w:World} {B fp id:Nat} {fv:Value} {gs:List Gr} (h:Fil w B fp id fv gs) :
  Calls Tryz.prog 21 #[.pointer (some ⟨fp,0,none⟩)] w fun e w'=>e=.returned (.int .i64 (gs.length:Int))/\w'=w:=by
 obtain ⟨gv,xs,h1,h2,h3,h4⟩:=h
 have hgv:∃ ga gc,gv=.slice ga gs.length gc:=by
  rcases h3.2 with ⟨e,e2⟩ | ⟨_,_,_,e,_⟩
  ·rw [e2];exact ⟨_,_,e⟩
  ·exact ⟨_,_,e⟩
 obtain ⟨ga,gc,rfl⟩:=hgv
 have c2:w.cell? ⟨fp,2,none⟩=some (.slice ga gs.length gc):=by rw [cell_block h1];rfl
 clear h1 h2 h3 h4
 go_enter Tryz.func21,Tryz.ntmps21
 go_wp2_with fail
 go_ret
 exact ⟨rfl,rfl⟩
end Go.Proofs.YtpljdjmpamjkhaaGreatDoor
