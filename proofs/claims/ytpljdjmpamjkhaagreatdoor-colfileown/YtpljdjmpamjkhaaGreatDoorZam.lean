/- Contracts: putSteps, runLength, putRuns, distance. Contracts: putRuns, distance, pack, placeWidth, putRising. Contracts: placesAmong, putPlaces, putHeights. Contracts: putPlaces, putHeights. Contracts: encoders, Encode. -/
import Derived.Test.YtpljdjmpamjkhaaGreatDoorZal
import Derived.Laws.EntriesVeiled
set_option linter.unusedVariables false
set_option linter.unusedSimpArgs false
set_option maxRecDepth 100000
set_option maxHeartbeats 2000000
namespace Go.Proofs.YtpljdjmpamjkhaaGreatDoor
open Go.RowKit Go.Lib
def ahd (l:List Int) (k:Nat):Int:=if k=0 then 0 else l.getD (k-1) 0
theorem ahd_succ {l:List Int} {k:Nat} (h:k<l.length):ahd l (k+1)=l[k]:=by
 unfold ahd
 simp [List.getD_eq_getElem?_getD,h]
theorem enc1_append:∀ (a:List Int) (last x:Int),enc1 last (a++[x])=enc1 last a++wv (w64 (x-(a.getLast?.getD last)))
 | [],last,x=>by simp [enc1]
 | y::t,last,x=>by
  rw [List.cons_append,enc1,enc1_append t y x,enc1,List.append_assoc]
  cases t with
  | nil=>rfl
  | cons z s=>rw [show (y::z::s).getLast?=(z::s).getLast? from by simp [List.getLast?_cons_cons]];simp [List.getLast?_eq_some_getLast]
theorem ahd_last {l:List Int} {k:Nat} (h:k<=l.length):(l.take k).getLast?.getD 0=ahd l k:=by
 unfold ahd
 cases k with
 | zero=>simp
 | succ k =>
  rw [if_neg (by omega),List.getLast?_take,List.getD_eq_getElem?_getD]
  simp [show k<l.length by omega]
theorem enc1_succ {l:List Int} {k:Nat} (h:k<l.length):enc1 0 (l.take (k+1))=enc1 0 (l.take k)++wv (w64 (l[k]-ahd l k)):=by
 rw [List.take_succ_eq_append_getElem h,enc1_append,ahd_last (by omega)]
theorem wrap_w64 (x:Int):IntKind.i64.wrap x=w64 x:=by rw [IntKind.wrap_i64];unfold w64;omega
theorem putSteps_any {w:World} {v:Value} {l:List Int} (hs:Sv w v (ivals l)) (hl:l.length<=256) (hi:Is l) :
  Calls Tryz.prog 227 #[v] w (Told w (enc1 0 l)):=by
 have HI:=hidden hi
 have HS:=hidden hs
 obtain ⟨a,cap,rfl,hcap,hcm⟩:=hs.form
 clear hs hi hcap hcm
 go_enter Tryz.func227,Tryz.ntmps227
 go_wp2_with fail
 go_loopw [3,4,9] (fun b ah i wr=>∃ k:Nat,k<=l.length/\i=.int .i64 (k:Int)/\ah=.int .i64 (ahd l k)/\OwnB wr w.heap.size b (enc1 0 (l.take k))/\Below w.heap.size w wr) (fun _ _ i _=>l.length-(intOf i).toNat)
 case atStart=>exact ⟨0,by omega,rfl,rfl,OwnB.nil _ _,Below.refl _ _⟩
 case round =>
  obtain ⟨k,hk,rfl,rfl,hown,hbel⟩:=hrel
  have HO:=hidden hown
  have HB:=hidden hbel
  have hzr:=hbel.size
  clear hown hbel
  by_cases hlt:k<l.length
  ·obtain ⟨b,off,rfl,hb,hck⟩:=(HS.out.kept HB.out).at hlt
   have HX:=hidden (w64_i64 (l[k]-ahd l k))
   have hwr:=wrap_w64 (l[k]-ahd l k)
   have HT:=hidden (enc1_succ hlt)
   have HA:=hidden (ahd_succ hlt)
   have hsz:=(enc1_size (l:=l.take k) (last:=0)).1
   rw [List.length_take] at hsz
   have hten:=wv_ten (w64_i64 (l[k]-ahd l k))
   generalize l[k]=x at *
   generalize ahd l k=y at *
   generalize enc1 0 (l.take k)=acc at *
   generalize w64 (x-y)=d at *
   go_wp2_with fail
   try rw [hwr]
   refine (putInt_told HX.out _).mono ?_
   rintro e w2 ⟨⟨v2,rfl,hown2⟩,hb2⟩
   have HO2:=hidden hown2
   have HOk:=hidden (HO.out.kept hb2)
   have HB2:=hidden (HB.out.trans (hb2.mono hzr))
   have hz2:=hb2.size
   clear hown2 hb2
   go_wp2_with (first | (at_builtin;refine wpList_append_sv rfl _ _ rfl w.heap.size _ _ acc (wv d) rfl HOk.out rfl HO2.out.sv ?c1 ?c2 ?_))
   case c1=>omega
   case c2=>omega
   intro v3 w3 o3 b3
   have HO3:=hidden o3
   have HB3:=hidden (HB2.out.trans b3)
   clear o3 b3
   go_wp2_with fail
   go_roundw
   case rel=>exact ⟨k+1,by omega,by go_num,by rw [HA.out],by rw [HT.out];exact HO3.out,HB3.out⟩
   case measure=>simp [intOf];omega
  ·obtain rfl:k=l.length:=by omega
   rw [List.take_length] at HO
   go_wp2_with fail
   go_ret
   exact ⟨⟨_,rfl,HO.out⟩,HB.out⟩
def runL (x:Int):List Int->Nat
 | []=>0
 | y::t=>if y=x then runL x t+1 else 0
theorem runL_le (x:Int):∀ l,runL x l<=l.length
 | []=>by simp [runL]
 | y::t=>by
  have:=runL_le x t
  unfold runL
  split<;>simp<;>omega
theorem runL_stop {x:Int}:∀ {l:List Int} {k:Nat},(∀ j (h:j<k) (hl:j<l.length),l[j]=x)->(h:k<l.length)->l[k]≠x->runL x l=k
 | y::t,0,_,_,h=>by
  unfold runL
  rw [if_neg (by simpa using h)]
 | y::t,k+1,ha,hk,h=>by
  have h0:=ha 0 (by omega) (by simp)
  unfold runL
  rw [if_pos (by simpa using h0),runL_stop (l:=t) (k:=k) (fun j hj hl=>by have:=ha (j+1) (by omega) (by simpa using hl);simpa using this) (by simpa using hk) (by simpa using h)]
theorem runL_all {x:Int}:∀ {l:List Int},(∀ j (h:j<l.length),l[j]=x)->runL x l=l.length
 | [],_=>rfl
 | y::t,ha=>by
  have h0:=ha 0 (by simp)
  unfold runL
  rw [if_pos (by simpa using h0),runL_all (l:=t) (fun j hj=>by have:=ha (j+1) (by simpa using hj);simpa using this)]
  simp
theorem enc2c_run (x:Int):∀ (t:List Int) (c:Nat),enc2c x c t=wv x++uv (c+runL x t)++enc2 (t.drop (runL x t))
 | [],c=>by simp [enc2c,runL,enc2]
 | y::t,c=>by
  unfold enc2c runL
  split
  ·next h =>
   rw [enc2c_run x t (c+1)]
   rw [show c+1+runL x t=c+(runL x t+1) by omega,List.drop_succ_cons]
  ·simp [enc2]
theorem enc2_run {l:List Int} (h:0<l.length):enc2 l=wv l[0]++uv (runL l[0] l)++enc2 (l.drop (runL l[0] l)):=by
 cases l with
 | nil=>simp at h
 | cons x t =>
  show enc2c x 1 t=wv x++uv (runL x (x::t))++enc2 ((x::t).drop (runL x (x::t)))
  rw [enc2c_run x t 1]
  have e:runL x (x::t)=runL x t+1:=by rw [runL,if_pos rfl]
  rw [e,List.drop_succ_cons,Nat.add_comm 1]
theorem runL_pos {l:List Int} (h:0<l.length):0<runL l[0] l:=by
 cases l with
 | nil=>simp at h
 | cons x t =>
  show 0<runL x (x::t)
  rw [runL,if_pos rfl]
  omega
theorem runLength_any {w:World} {v:Value} {l:List Int} (hs:Sv w v (ivals l)) (hl:l.length<=256) (hp:0<l.length) :
  Calls Tryz.prog 240 #[v] w fun e w'=>e=.returned (.int .i64 (runL l[0] l:Int))/\w'=w:=by
 have HS:=hidden hs
 obtain ⟨a,cap,rfl,hcap,hcm⟩:=hs.form
 obtain ⟨b,off,rfl,hb,hc0⟩:=hs.at hp
 clear hs hcap hcm
 rw [Nat.add_zero] at hc0
 have HE:Hid (∀ k,(∀ j (h:j<k) (hl:j<l.length),l[j]=l[0])->(h:k<l.length)->l[k]≠l[0]->runL l[0] l=k):=fun k h1 h2 h3=>runL_stop h1 h2 h3
 have HA:=hidden (runL_all (x:=l[0]) (l:=l))
 generalize l[0]=x at *
 go_enter Tryz.func240,Tryz.ntmps240
 go_wp2_with fail
 go_loopw [7] (fun i wr=>wr=w/\∃ k:Nat,k<=l.length/\i=.int .i64 (k:Int)/\∀ j (h:j<k) (hl:j<l.length),l[j]=x) (fun i _=>l.length-(intOf i).toNat)
 case atStart=>exact ⟨rfl,0,by omega,rfl,fun j h=>by omega⟩
 case round =>
  obtain ⟨rfl,k,hk,rfl,hall⟩:=hrel
  have HL:=hidden hall
  clear hall
  by_cases hlt:k<l.length
  ·obtain ⟨b',off',hbo,_,hck⟩:=HS.out.at hlt
   cases hbo
   have HX:=hidden (HE.out k HL.out hlt)
   have HY:Hid (∀ j (h:j<k+1) (hl:j<l.length),l[j]=x->l[j]=x):=fun _ _ _ h=>h
   by_cases he:(l[k]==x)=true
   ·have hne:(l[k] != x)=false:=by simpa using he
    have HN:Hid (∀ j (h:j<k+1) (hl:j<l.length),l[j]=x):=by
     intro j hj hl
     rcases Nat.lt_or_ge j k with h | h
     ·exact HL.out j h hl
     ·have:j=k:=by omega
      subst this
      simpa using he
    clear HX
    generalize l[k]=y at *
    go_wp2_with fail
    go_roundw
    case rel=>exact ⟨trivial,k+1,by omega,by go_num,HN.out⟩
    case measure=>simp [intOf];omega
   ·have hne:(l[k] != x)=true:=by simpa using he
    have HR:=hidden (HX.out (by simpa using he))
    clear HX
    generalize l[k]=y at *
    go_wp2_with fail
    go_ret
    rw [HR.out]
    exact ⟨rfl,rfl⟩
  ·obtain rfl:k=l.length:=by omega
   have HR:=hidden (HA.out (fun j hj=>HL.out j hj hj))
   go_wp2_with fail
   go_ret
   rw [HR.out]
   exact ⟨rfl,rfl⟩
end Go.Proofs.YtpljdjmpamjkhaaGreatDoor
set_option linter.unusedVariables false
set_option linter.unusedSimpArgs false
namespace Go.Proofs.YtpljdjmpamjkhaaGreatDoor
open Go.RowKit Go.Lib
theorem Sv_drop {W:World} {b off n cap:Nat} {xs:List Value} (h:Sv W (.slice (some ⟨b,off,none⟩) n cap) xs) {k:Nat} (hk:k<=xs.length) :
  ∃ A,(if cap=k then (some ⟨b,off,none⟩:Option Addr) else some ⟨b,off+k,none⟩)=A/\Sv W (.slice A (n-k) (cap-k)) (xs.drop k):=by
 refine ⟨_,rfl,?_⟩
 have:=h.drop hk rfl
 split at this
 ·next e=>rw [if_pos e];exact this
 ·next e=>rw [if_neg e];exact this
theorem ivals_drop (l:List Int) (k:Nat):ivals (l.drop k)=(ivals l).drop k:=by simp [ivals,List.map_drop]
theorem Is.drop {l:List Int} (h:Is l) (k:Nat):Is (l.drop k):=fun x hx=>h x (List.mem_of_mem_drop hx)
theorem enc2_size {l:List Int} (h:Is l) (hl:l.length<=256):(enc2 l).length<=5120:=by
 have:=encC_size 2 h hl
 cases l with
 | nil=>simp [enc2]
 | cons x t =>
  have:=(enc2c_size (t:=t) (x:=x) (c:=1) (fun z hz=>h z (by simp [hz])) (h x (by simp)) (by simp at hl;omega)).1
  simp at hl
  rw [enc2]
  omega
theorem putRuns_any {w:World} {v:Value} {l:List Int} (hs:Sv w v (ivals l)) (hl:l.length<=256) (hi:Is l) :
  Calls Tryz.prog 228 #[v] w (Told w (enc2 l)):=by
 have HI:=hidden hi
 have HS:=hidden hs
 have hsz:=enc2_size hi hl
 obtain ⟨a,cap,rfl,hcap,hcm⟩:=hs.form
 clear hs hi
 go_enter Tryz.func228,Tryz.ntmps228
 go_wp2_with fail
 go_loopw [0,3] (fun v b wr=>∃ (m:List Int) (acc:List Nat),Sv w v (ivals m)/\m.length<=256/\Is m/\acc++enc2 m=enc2 l/\OwnB wr w.heap.size b acc/\Below w.heap.size w wr) (fun v _ _=>(match v with | .slice _ n _=>n | _=>0))
 case atStart=>exact ⟨l,[],HS.out,hl,HI.out,rfl,OwnB.nil _ _,Below.refl _ _⟩
 case round =>
  obtain ⟨m,acc,hsm,hml,him,hacc,hown,hbel⟩:=hrel
  have HSM:=hidden hsm
  have HIM:=hidden him
  have HA:=hidden hacc
  have HO:=hidden hown
  have HB:=hidden hbel
  have hzr:=hbel.size
  have hlen:=congrArg List.length hacc
  rw [List.length_append] at hlen
  obtain ⟨a2,cap2,rfl,hcap2,hcm2⟩:=hsm.form
  have hcm3:cap2<=9223372036854775807:=by unfold maxLen at hcm2;omega
  clear hsm him hacc hown hbel hcm2 HS hcap hcm
  by_cases hp:0<m.length
  ·have HSR:=hidden (HSM.out.kept HB.out)
   obtain ⟨b,off,rfl,hb,hc0⟩:=HSR.out.at hp
   rw [Nat.add_zero] at hc0
   have HX:=hidden (HIM.out.get hp)
   have hE:=enc2_run hp
   have HRL:=hidden (runLength_any HSR.out hml hp)
   have hrl:=runL_le m[0] m
   have hrp:=runL_pos hp
   have h10:=wv_ten (HIM.out.get hp)
   generalize m[0]=x at *
   generalize runL x m=r at *
   obtain ⟨A,hA,hSA⟩:=Sv_drop HSM.out (k:=r) (by rw [ivals_length];omega)
   rw [← ivals_drop] at hSA
   have HSA:=hidden hSA
   have HE:=hidden hE
   have hlE:=congrArg List.length hE
   rw [List.length_append,List.length_append] at hlE
   clear hSA hE
   go_wp2_with fail
   refine HRL.out.mono ?_
   rintro e w1 ⟨rfl,rfl⟩
   go_wp2_with fail
   refine (putInt_told HX.out _).mono ?_
   rintro e w2 ⟨⟨v2,rfl,hown2⟩,hb2⟩
   have HO2:=hidden hown2
   have HOk:=hidden (HO.out.kept hb2)
   have HB2:=hidden (HB.out.trans (hb2.mono hzr))
   have hz2:=hb2.size
   clear hown2 hb2
   go_wp2_with (first | (at_builtin;refine wpList_append_sv rfl _ _ rfl w.heap.size _ _ acc (wv x) rfl HOk.out rfl HO2.out.sv ?c1 ?c2 ?_))
   case c1=>omega
   case c2=>omega
   intro v3 w3 o3 b3
   have HO3:=hidden o3
   have HB3:=hidden (HB2.out.trans b3)
   have hz3:=b3.size
   clear o3 b3
   go_wp2_with fail
   refine (vput_told r (by omega) _).mono ?_
   rintro e w4 ⟨⟨v4,rfl,hown4⟩,hb4⟩
   have HO4:=hidden hown4
   have HOk4:=hidden (HO3.out.kept hb4)
   have HB4:=hidden (HB3.out.trans (hb4.mono (by omega)))
   have hz4:=hb4.size
   clear hown4 hb4
   go_wp2_with (first | (at_builtin;refine wpList_append_sv rfl _ _ rfl w.heap.size _ _ (acc++wv x) (uv r) rfl HOk4.out rfl HO4.out.sv ?c1 ?c2 ?_))
   case c1=>simp;omega
   case c2=>omega
   intro v5 w5 o5 b5
   have HO5:=hidden o5
   have HB5:=hidden (HB4.out.trans b5)
   clear o5 b5
   go_wp2_with fail
   go_roundw
   case rel=>exact ⟨m.drop r,acc++(wv x++uv r),HSA.out,by rw [List.length_drop];omega,HIM.out.drop r,by rw [← HA.out,HE.out];simp,HO5.out,HB5.out⟩
   case measure=>simp;omega
  ·obtain rfl:m=[]:=List.eq_nil_of_length_eq_zero (by omega)
   go_wp2_with fail
   go_ret
   refine ⟨⟨_,rfl,?_⟩,HB.out⟩
   have e:=HA.out
   rw [show enc2 []=[] from rfl,List.append_nil] at e
   rw [← e]
   exact HO.out
theorem distance_any (a b:Int) (ha:I64 a) (hb:I64 b) (w:World):Calls Tryz.prog 249 #[.int .i64 a,.int .i64 b] w fun e w'=>e=.returned (.int .u64 ((b-a) % 18446744073709551616))/\w'=w:=by
 have HE:Hid (IntKind.u64.wrap (IntKind.u64.wrap b-IntKind.u64.wrap a)=(b-a) % 18446744073709551616):=by
  show _=_
  rw [IntKind.wrap_u64,IntKind.wrap_u64,IntKind.wrap_u64]
  omega
 clear ha hb
 go_enter Tryz.func249,Tryz.ntmps249
 go_wp2_with fail
 go_ret
 rw [← HE.out]
 exact ⟨rfl,rfl⟩
theorem distance_up {a b:Int} (ha:I64 a) (hb:I64 b) (hab:a<=b) (w:World):Calls Tryz.prog 249 #[.int .i64 a,.int .i64 b] w fun e w'=>e=.returned (.int .u64 ((b-a).toNat:Int))/\w'=w:=by
 have:=distance_any a b ha hb w
 unfold I64 at ha hb
 rwa [show (b-a) % 18446744073709551616=((b-a).toNat:Int) by omega] at this
theorem packI_any {w:World} {v:Value} {l:List Nat} (hs:Sx .u64 w v l) (h64:∀ x∈l,x<18446744073709551616) (x:Int) :
  Calls Tryz.prog 245 #[v,.int .i64 x] w (Told w (packR l x)):=by
 have HP:=hidden (pack_anyC hs h64 x)
 clear hs h64
 go_enter Tryz.func245,Tryz.ntmps245
 go_wp2_with fail
 refine HP.out.mono ?_
 rintro e w1 ⟨v1,rfl,hown,hb⟩
 have HO:=hidden hown
 clear hown
 go_wp2_with fail
 go_ret
 exact ⟨⟨_,rfl,HO.out⟩,hb⟩
theorem wd_one (n:Nat):wd [n]=blen n:=by
 have h1:wd [n]<=blen n:=wd_le.2 (fun x hx=>by
  have:x=n:=by simpa using hx
  subst this
  exact blen_le.1 (Nat.le_refl _))
 have h2:blen n<=wd [n]:=blen_le.2 (wd_le.1 (Nat.le_refl _) n (by simp))
 omega
theorem placeWidth_any (n:Nat) (hn:n<=256) (w:World):Calls Tryz.prog 247 #[.int .i64 (n:Int)] w fun e w'=>e=.returned (.int .i64 (blen (n-1):Int))/\Below w.heap.size w w':=by
 by_cases h0:((n:Int)==0)=true
 ·have h0':n=0:=by simpa using h0
  subst h0'
  go_enter Tryz.func247,Tryz.ntmps247
  go_wp2_with fail
  go_ret
  exact ⟨rfl,Below.refl _ _⟩
 ·have h0f:((n:Int)==0)=false:=by simpa using h0
  have hn0:n≠0:=by simpa using h0
  obtain ⟨m,rfl⟩:∃ m,n=m+1:=⟨n-1,by omega⟩
  have HW:=hidden (fun w=>width_any (Sx.lit (k:=.u64) w [m] 92 (by unfold maxLen;simp)) (fun x hx=>by
   have:x=m:=by simpa using hx
   omega))
  have HB:=hidden (fun w:World=>(Below.refl w.heap.size w).alloc (Nat.le_refl _) (.cells (vals .u64 [m]).toArray 92))
  have he:((m+1:Nat):Int)-1=(m:Int):=by omega
  rw [wd_one] at HW
  clear h0
  go_enter Tryz.func247,Tryz.ntmps247
  go_wp2_with fail
  refine (HW.out w).mono ?_
  rintro e w1 ⟨rfl,rfl⟩
  have HB1:=hidden (HB.out w)
  go_wp2_with fail
  go_ret
  exact ⟨rfl,HB1.out⟩
theorem encD_append:∀ (t:List Int) (last x:Int),encD last (t++[x])=encD last t++uv (x-(t.getLast?.getD last)).toNat
 | [],last,x=>by simp [encD]
 | y::t,last,x=>by
  rw [List.cons_append,encD,encD_append t y x,encD,List.append_assoc]
  cases t with
  | nil=>rfl
  | cons z s=>rw [show (y::z::s).getLast?=(z::s).getLast? from by simp [List.getLast?_cons_cons]];simp [List.getLast?_eq_some_getLast]
theorem encU_one {u:List Int} (h:0<u.length):encU (u.take 1)=encU (u.take 0)++wv u[0]:=by
 cases u with
 | nil=>simp at h
 | cons x t=>simp [encU,encD]
theorem encU_succ {u:List Int} {k:Nat} (h:k+1<u.length):encU (u.take (k+1+1))=encU (u.take (k+1))++uv (u[k+1]-u[k]).toNat:=by
 cases u with
 | nil=>simp at h
 | cons x t =>
  have hk:k<t.length:=by simpa using h
  rw [List.take_succ_cons,List.take_succ_cons,List.take_succ_eq_append_getElem hk,encU,encU,encD_append,List.append_assoc]
  congr 3
  cases k with
  | zero=>simp
  | succ k =>
   rw [List.getLast?_take]
   simp [show k<t.length by omega]
theorem putRising_any {w:World} {v:Value} {l:List Int} (hs:Sv w v (ivals l)) (hl:l.length<=256) (hi:Is l) (hr:Rising l) :
  Calls Tryz.prog 244 #[v] w (Told w (encU l)):=by
 have HI:=hidden hi
 have HS:=hidden hs
 have HR:=hidden hr
 obtain ⟨a,cap,rfl,hcap,hcm⟩:=hs.form
 clear hs hi hcap hcm hr
 go_enter Tryz.func244,Tryz.ntmps244
 go_wp2_with fail
 go_loopw [3,8] (fun b i wr=>∃ k:Nat,k<=l.length/\i=.int .i64 (k:Int)/\OwnB wr w.heap.size b (encU (l.take k))/\Below w.heap.size w wr) (fun _ i _=>l.length-(intOf i).toNat)
 case atStart=>exact ⟨0,by omega,rfl,OwnB.nil _ _,Below.refl _ _⟩
 case round =>
  obtain ⟨k,hk,rfl,hown,hbel⟩:=hrel
  have HO:=hidden hown
  have HB:=hidden hbel
  have hzr:=hbel.size
  clear hown hbel
  by_cases hlt:k<l.length
  ·obtain ⟨b,off,rfl,hb,hck⟩:=(HS.out.kept HB.out).at hlt
   have HX:=hidden (HI.out.get hlt)
   have hsz:=(encU_size (HI.out.take k)).1
   rw [List.length_take] at hsz
   have hten:=wv_ten (HI.out.get hlt)
   cases k with
   | zero =>
    have HT:=hidden (encU_one hlt)
    rw [Nat.add_zero] at hck
    generalize encU (l.take 0)=acc at *
    generalize l[0]=x at *
    go_wp2_with fail
    refine (putInt_told HX.out _).mono ?_
    rintro e w2 ⟨⟨v2,rfl,hown2⟩,hb2⟩
    have HO2:=hidden hown2
    have HOk:=hidden (HO.out.kept hb2)
    have HB2:=hidden (HB.out.trans (hb2.mono hzr))
    have hz2:=hb2.size
    clear hown2 hb2
    go_wp2_with (first | (at_builtin;refine wpList_append_sv rfl _ _ rfl w.heap.size _ _ acc (wv x) rfl HOk.out rfl HO2.out.sv ?c1 ?c2 ?_))
    case c1=>omega
    case c2=>omega
    intro v3 w3 o3 b3
    have HO3:=hidden o3
    have HB3:=hidden (HB2.out.trans b3)
    clear o3 b3
    go_wp2_with fail
    go_roundw
    case rel=>exact ⟨1,by omega,by go_num,by rw [HT.out];exact HO3.out,HB3.out⟩
    case measure=>simp [intOf];omega
   | succ k =>
    obtain ⟨b',off',hbo,_,hck2⟩:=(HS.out.kept HB.out).at (show k<l.length by omega)
    cases hbo
    have HX2:=hidden (HI.out.get (show k<l.length by omega))
    have hlt2:l[k]<l[k+1]:=List.pairwise_iff_getElem.1 HR.out k (k+1) (by omega) hlt (by omega)
    have HT:=hidden (encU_succ hlt)
    have hd:(l[k+1]-l[k]).toNat<18446744073709551616:=by
     have h1:=HX.out
     have h2:=HX2.out
     unfold I64 at h1 h2
     omega
    have hten2:=uv_ten hd
    have HD:=hidden (fun W=>distance_up (a:=l[k]) (b:=l[k+1]) HX2.out HX.out (by omega) W)
    have hk0:(((k+1:Nat):Int)==0)=false:=by simp;omega
    have hk1:((k+1:Nat):Int)-1=(k:Int):=by omega
    have hcast:((k+1:Nat):Int)=(k:Int)+1:=by omega
    generalize l[k+1]=x at *
    generalize l[k]=y at *
    generalize encU (l.take (k+1))=acc at *
    generalize (x-y).toNat=d at *
    have HDL:Hid (d<18446744073709551616):=hd
    clear hd
    go_wp2_with fail
    refine (HD.out _).mono ?_
    rintro e w1 ⟨rfl,rfl⟩
    go_wp2_with fail
    refine (vput_told d HDL.out _).mono ?_
    rintro e w2 ⟨⟨v2,rfl,hown2⟩,hb2⟩
    have HO2:=hidden hown2
    have HOk:=hidden (HO.out.kept hb2)
    have HB2:=hidden (HB.out.trans (hb2.mono hzr))
    have hz2:=hb2.size
    clear hown2 hb2
    go_wp2_with (first | (at_builtin;refine wpList_append_sv rfl _ _ rfl w.heap.size _ _ acc (uv d) rfl HOk.out rfl HO2.out.sv ?c1 ?c2 ?_))
    case c1=>omega
    case c2=>omega
    intro v3 w3 o3 b3
    have HO3:=hidden o3
    have HB3:=hidden (HB2.out.trans b3)
    clear o3 b3
    go_wp2_with fail
    go_roundw
    case rel=>exact ⟨k+1+1,by omega,by go_num,by rw [HT.out];exact HO3.out,HB3.out⟩
    case measure=>simp [intOf];omega
  ·obtain rfl:k=l.length:=by omega
   rw [List.take_length] at HO
   go_wp2_with fail
   go_ret
   exact ⟨⟨_,rfl,HO.out⟩,HB.out⟩
end Go.Proofs.YtpljdjmpamjkhaaGreatDoor
set_option linter.unusedVariables false
set_option linter.unusedSimpArgs false
namespace Go.Proofs.YtpljdjmpamjkhaaGreatDoor
open Go.RowKit Go.Lib
theorem OwnB.low {W:World} {B B':Nat} {v:Value} {bs:List Nat} (h:OwnB W B' v bs) (hb:B<=B'):OwnB W B v bs:=by
 obtain ⟨h1,h2⟩:=h
 refine ⟨h1,?_⟩
 rcases h2 with h | ⟨g,cap,cur,e1,e2,e3⟩
 ·exact Or.inl h
 ·exact Or.inr ⟨g,cap,cur,e1,Nat.le_trans hb e2,e3⟩
theorem placesAmong_any {w:World} {vu v:Value} {u l:List Int} (hu:Sv w vu (ivals u)) (hs:Sv w v (ivals l)) (hl:l.length<=256) (hul:u.length<=256) (hr:Rising u) (hm:∀ x∈l,x∈u) :
  Calls Tryz.prog 246 #[vu,v] w fun e w'=>(∃ v',e=.returned v'/\OwnU w' w.heap.size v' (l.map (pl u)))/\Below w.heap.size w w':=by
 obtain ⟨i0,hi,hz0,hz1',hz2⟩:=info_parts info92
 have HU:=hidden hu
 have HS:=hidden hs
 have HR:=hidden hr
 have HM:=hidden hm
 obtain ⟨a,cap,rfl,hcap,hcm⟩:=hs.form
 clear hs hu hcap hcm hr hm
 obtain ⟨D,hD⟩:∃ D,l.map (pl u)=D:=⟨_,rfl⟩
 have hDl:D.length=l.length:=by rw [← hD,List.length_map]
 have HG:Hid (∀ k (h:k<l.length),D[k]?=some (pl u l[k])):=hidden (fun k h=>by rw [← hD];simp [h])
 rw [hD]
 have HDL:=hidden hDl
 clear hD hDl
 go_enter Tryz.func246,Tryz.ntmps246
 go_wp2_with (first | (refine wpList_make_full _ rfl _ _ 142 rfl w.heap.size 92 i0 (.int .u64 0) 1 Tryz.underlying142 hi hz0 hz1' .i64 .i64 _ _ l.length rfl rfl ?m1 ?m2 ?m3 ?m4 ?m5 ?_))
 case m1=>rfl
 case m2=>rfl
 case m3=>rw [hz2];omega
 case m4=>unfold maxLen;omega
 case m5=>omega
 intro w4 ho4 hg4
 have hb4:Below w.heap.size w w4:=(Below.refl _ _).grown hg4 (Nat.le_refl _) (fun k hk=>by cases hk)
 have ho4':w4.ownsRow w.heap.size 92 1 (.slice (some ⟨w.heap.size,0,none⟩) l.length l.length) l.length (vals .u64 (fill D 0)):=by
  rw [fill_zero,HDL.out,← made_vals]
  simpa using ho4
 have HO4:=hidden ho4'
 have HB4:=hidden hb4
 clear ho4 hg4 hb4 ho4'
 go_wp2_with fail
 go_loopw [15] (fun i wr=>∃ k:Nat,i=.int .i64 (k:Int)/\k<=l.length/\wr.ownsRow w.heap.size 92 1 (.slice (some ⟨w.heap.size,0,none⟩) l.length l.length) l.length (vals .u64 (fill D k))/\Below w.heap.size w wr) (fun i _=>l.length-(intOf i).toNat)
 case atStart=>exact ⟨0,rfl,by omega,HO4.out,HB4.out⟩
 case round =>
  obtain ⟨k,rfl,hk,how,hbel⟩:=hrel
  have HB:=hidden hbel
  have HO:=hidden how
  have hzr:=hbel.size
  clear hbel how
  by_cases hlt:k<l.length
  ·have hkD:k<D.length:=by rw [HDL.out];exact hlt
   have hval:D[k]=pl u l[k]:=by
    have:=HG.out k hlt
    rw [List.getElem?_eq_getElem hkD] at this
    exact Option.some.inj this
   obtain ⟨b,off,rfl,hb,hck⟩:=(HS.out.kept HB.out).at hlt
   have hmem:=HM.out l[k] (List.getElem_mem hlt)
   have hSr:=search_any (HU.out.kept HB.out) (List.length_pos_of_mem hmem) hul HR.out l[k]
   rw [countP_pl HR.out hmem,← hval] at hSr
   have HSr:=hidden hSr
   have hplt:=(pl_get hmem).1
   rw [← hval] at hplt
   have hfl:k<(fill D k).length:=by rw [fill_length (by omega)];exact hkD
   have HFS:=hidden (fill_set hkD)
   clear hSr hval hmem
   generalize l[k]=x at *
   generalize (fill D k)[k]=y at *
   generalize D[k]=z at *
   go_wp2_with fail
   refine HSr.out.mono ?_
   rintro e w5 ⟨⟨r,rfl⟩,hb5⟩
   have ho5:=own_kept HO.out hb5
   have HB5:=hidden (HB.out.trans (hb5.mono hzr))
   have hck5:=(ho5.cellAt k (by omega)).trans (vals_get hfl)
   have hfr5:=ho5.frozenAt k
   have hST:=ho5.stored k (.int .u64 (z:Int))
   rw [vals_set,HFS.out] at hST
   have HST:=hidden hST
   have hgz:=(ho5.lt w.heap.size rfl).2
   clear hST hb5 ho5
   go_wp2_with fail
   go_roundw
   case rel=>exact ⟨k+1,by go_num,by omega,HST.out.1,below_set HB5.out (Nat.le_refl _) _⟩
   case measure=>simp [intOf];omega
  ·obtain rfl:k=l.length:=by omega
   have e:fill D l.length=D:=by
    have:=fill_all D
    rwa [HDL.out] at this
   have HO':Hid (OwnU wr w.heap.size (.slice (some ⟨w.heap.size,0,none⟩) l.length l.length) D):=by
    show OwnU _ _ _ _
    have:=HO.out
    rw [e] at this
    unfold OwnU
    rw [HDL.out]
    exact this
   clear HO e
   go_wp2_with fail
   go_ret
   exact ⟨⟨_,rfl,HO'.out⟩,HB.out⟩
end Go.Proofs.YtpljdjmpamjkhaaGreatDoor
set_option linter.unusedVariables false
set_option linter.unusedSimpArgs false
namespace Go.Proofs.YtpljdjmpamjkhaaGreatDoor
open Go.RowKit Go.Lib
theorem OwnB.len {W:World} {B:Nat} {v:Value} {l:List Nat} (h:OwnB W B v l):∃ a cap,v=.slice a l.length cap:=own_len h
theorem OwnI.len {W:World} {B:Nat} {v:Value} {l:List Int} (h:OwnI W B v l):∃ a cap,v=.slice a l.length cap:=own_len h
theorem OwnU.len {W:World} {B:Nat} {v:Value} {l:List Nat} (h:OwnU W B v l):∃ a cap,v=.slice a l.length cap:=own_len h
theorem places_u64 {l:List Int} (hl:l.length<=256):∀ x∈places l,x<18446744073709551616:=by
 intro x hx
 have:=places_lt x hx
 have:=uniq_length l
 omega
theorem enc3_form {l:List Int} (hl:l.length<=256):enc3 l=uv (uniq l).length++encU (uniq l)++packR (places l) (blen ((uniq l).length-1):Int):=by
 unfold enc3
 rw [List.append_assoc]
 rcases Nat.eq_zero_or_pos l.length with h0 | h0
 ·obtain rfl:l=[]:=List.eq_nil_of_length_eq_zero h0
  rfl
 ·rw [places_wd h0]
theorem packR_size' {p:List Nat} {x:Int} (hl:p.length<=256):(packR p x).length<=2048:=by
 unfold packR
 split
 ·next h =>
  unfold can at h
  simp only [decide_eq_true_eq] at h
  rw [dig_length]
  have:p.length*x.toNat<=256*64:=Nat.mul_le_mul hl (by omega)
  unfold by8
  omega
 ·simp
theorem putPlaces_any {w:World} {v:Value} {l:List Int} (hs:Sv w v (ivals l)) (hl:l.length<=256) (hi:Is l) :
  Calls Tryz.prog 229 #[v] w (Told w (enc3 l)):=by
 have HI:=hidden (uniq_i64 hi)
 have HS:=hidden hs
 have HC:=hidden (clone_anyC hs hl)
 have HF:=hidden (enc3_form hl)
 have HUR:=hidden (uniq_rising l)
 have HSU:=hidden (encU_size (uniq_i64 hi)).1
 have HCS:=hidden (compact_srt l)
 have HMEM:Hid (∀ x∈l,x∈uniq l):=fun x hx=>mem_uniq.2 hx
 have HP64:=hidden (places_u64 hl)
 have HPL:Hid (l.map (pl (uniq l))=places l):=rfl
 have hpl:=places_length l
 have hul:=uniq_length l
 have hsl:=srt_length l
 have hps:=packR_size' (p:=places l) (x:=(blen ((uniq l).length-1):Int)) (by omega)
 obtain ⟨a,cap,rfl,hcap,hcm⟩:=hs.form
 clear hs hi hcap hcm
 generalize places l=P at *
 generalize uniq l=u at *
 go_enter Tryz.func229,Tryz.ntmps229
 go_wp2_with fail
 refine HC.out.mono ?_
 rintro e w1 ⟨⟨v1,rfl,ho1⟩,hb1⟩
 have HO1:=hidden ho1
 have HB1:=hidden hb1
 have hz1:=hb1.size
 clear ho1 hb1
 go_wp2_with fail
 refine (sort_own HO1.out hl hz1).mono ?_
 rintro e w2 ⟨rfl,ho2,hb2⟩
 have HO2:=hidden ho2
 have HB2:=hidden (HB1.out.trans hb2)
 have hz2:=HB2.out.size
 clear ho2 hb2
 go_wp2_with fail
 refine (compact_own HO2.out (by omega) hz2).mono ?_
 rintro e w3 ⟨⟨v3,rfl,ho3⟩,hb3⟩
 rw [HCS.out] at ho3
 have HO3:=hidden ho3
 have HB3:=hidden (HB2.out.trans hb3)
 have hz3:=HB3.out.size
 obtain ⟨a3,c3,rfl⟩:=ho3.len
 clear ho3 hb3
 go_wp2_with fail
 refine (vput_told u.length (by omega) _).mono ?_
 rintro e w4 ⟨⟨v4,rfl,ho4⟩,hb4⟩
 have HO4:=hidden ho4
 have HB4:=hidden hb4
 have hz4:=hb4.size
 clear ho4 hb4
 go_wp2_with fail
 refine (putRising_any (HO3.out.sv.kept HB4.out) (by omega) HI.out HUR.out).mono ?_
 rintro e w5 ⟨⟨v5,rfl,ho5⟩,hb5⟩
 have HO5:=hidden ho5
 have HO45:=hidden (HO4.out.kept hb5)
 have HB5:=hidden (HB4.out.trans (hb5.mono hz4))
 have hz5:=hb5.size
 clear ho5 hb5
 have h10:=uv_ten (n:=u.length) (by omega)
 have hsu:=HSU.out
 go_wp2_with (first | (at_builtin;refine wpList_append_sv rfl _ _ rfl w3.heap.size _ _ (uv u.length) (encU u) rfl HO45.out rfl HO5.out.sv ?c1 ?c2 ?_))
 case c1=>omega
 case c2=>omega
 intro v6 w6 o6 b6
 have HO6:=hidden o6
 have HB6:=hidden (HB5.out.trans b6)
 have hz6:=HB6.out.size
 clear o6 b6
 go_wp2_with fail
 refine (placesAmong_any (HO3.out.sv.kept HB6.out) (HS.out.kept (HB3.out.trans (HB6.out.mono hz3))) hl (by omega) HUR.out HMEM.out).mono ?_
 rintro e w7 ⟨⟨v7,rfl,ho7⟩,hb7⟩
 rw [HPL.out] at ho7
 have HO7:=hidden ho7
 have HO67:=hidden (HO6.out.kept hb7)
 have HB7:=hidden (HB6.out.trans (hb7.mono hz6))
 have hz7:=hb7.size
 clear ho7 hb7
 go_wp2_with fail
 refine (placeWidth_any u.length (by omega) _).mono ?_
 rintro e w8 ⟨rfl,hb8⟩
 have HO78:=hidden (HO7.out.kept hb8)
 have HO68:=hidden (HO67.out.kept hb8)
 have HB8:=hidden (HB7.out.trans (hb8.mono (by omega)))
 have hz8:=hb8.size
 clear hb8
 go_wp2_with fail
 refine (packI_any HO78.out.sv.sx HP64.out _).mono ?_
 rintro e w9 ⟨⟨v9,rfl,ho9⟩,hb9⟩
 have HO9:=hidden ho9
 have HO69:=hidden (HO68.out.kept hb9)
 have HB9:=hidden (HB8.out.trans (hb9.mono (by omega)))
 have hz9:=hb9.size
 clear ho9 hb9
 go_wp2_with (first | (at_builtin;refine wpList_append_sv rfl _ _ rfl w3.heap.size _ _ (uv u.length++encU u) _ rfl HO69.out rfl HO9.out.sv ?c3 ?c4 ?_))
 case c3=>simp;omega
 case c4=>omega
 intro vA wA oA bA
 have HOA:=hidden oA
 have HBA:=hidden (HB3.out.trans ((HB9.out.trans bA).mono hz3))
 clear oA bA
 go_wp2_with fail
 go_ret
 refine ⟨⟨_,rfl,?_⟩,HBA.out⟩
 rw [HF.out]
 have:=HOA.out.low hz3
 simpa using this
theorem mores_cases {l:List Int} (h:0<l.length):enc4 l=wv (least l)++uv (wd (mores l))++packR (mores l) (wd (mores l):Int):=by
 unfold enc4
 rw [if_neg (by omega),List.append_assoc]
theorem putHeights_none {w:World} {v:Value} (hs:Sv w v (ivals [])):Calls Tryz.prog 230 #[v] w (Told w (enc4 [])):=by
 obtain ⟨a,cap,rfl,hcap,hcm⟩:=hs.form
 clear hs hcap hcm
 go_enter Tryz.func230,Tryz.ntmps230
 go_wp2_with fail
 go_ret
 exact ⟨⟨_,rfl,OwnB.nil _ _⟩,Below.refl _ _⟩
theorem putHeights_some {w:World} {v:Value} {l:List Int} (hs:Sv w v (ivals l)) (hl:l.length<=256) (hi:Is l) (hp:0<l.length) :
  Calls Tryz.prog 230 #[v] w (Told w (enc4 l)):=by
 obtain ⟨i0,hin,hz0,hz1',hz2⟩:=info_parts info92
 have HS:=hidden hs
 have HI:=hidden hi
 have HMin:=hidden (min_any hs hp hl)
 have HML:=hidden (minOf_least hp)
 have HE:=hidden (mores_cases hp)
 have HLI:=hidden (hi _ (least_mem hp))
 have HLE:=hidden (least_le (l:=l))
 have H64:=hidden (mores_lt hi)
 have h10:=wv_ten (hi _ (least_mem hp))
 have hwd:=wd64 (mores_lt hi)
 have hps:=packR_size' (p:=mores l) (x:=(wd (mores l):Int)) (by rw [mores_length];omega)
 have hDl:=mores_length l
 have HG:Hid (∀ k (h:k<l.length),(mores l)[k]?=some (l[k]-least l).toNat):=hidden (fun k h=>by simp [mores,h])
 obtain ⟨a,cap,rfl,hcap,hcm⟩:=hs.form
 clear hs hi hcap hcm
 rw [HML.out] at HMin
 generalize mores l=D at *
 generalize least l=lo at *
 have hlen0:((l.length:Int)==0)=false:=beq_eq_false_iff_ne.2 (by omega)
 go_enter Tryz.func230,Tryz.ntmps230
 go_wp2_with fail
 refine HMin.out.mono ?_
 rintro e w1 ⟨rfl,rfl⟩
 go_wp2_with (first | (refine wpList_make_full _ rfl _ _ 142 rfl w1.heap.size 92 i0 (.int .u64 0) 1 Tryz.underlying142 hin hz0 hz1' .i64 .i64 _ _ l.length rfl rfl ?m1 ?m2 ?m3 ?m4 ?m5 ?_))
 case m1=>rfl
 case m2=>rfl
 case m3=>rw [hz2];omega
 case m4=>unfold maxLen;omega
 case m5=>omega
 intro w4 ho4 hg4
 have hb4:Below w1.heap.size w1 w4:=(Below.refl _ _).grown hg4 (Nat.le_refl _) (fun k hk=>by cases hk)
 have ho4':w4.ownsRow w1.heap.size 92 1 (.slice (some ⟨w1.heap.size,0,none⟩) l.length l.length) l.length (vals .u64 (fill D 0)):=by
  rw [fill_zero,hDl,← made_vals]
  simpa using ho4
 have HO4:=hidden ho4'
 have HB4:=hidden hb4
 have HDL:=hidden hDl
 clear ho4 hg4 hb4 ho4' hDl
 go_wp2_with fail
 go_loopw [19] (fun i wr=>∃ k:Nat,i=.int .i64 (k:Int)/\k<=l.length/\wr.ownsRow w1.heap.size 92 1 (.slice (some ⟨w1.heap.size,0,none⟩) l.length l.length) l.length (vals .u64 (fill D k))/\Below w1.heap.size w1 wr) (fun i _=>l.length-(intOf i).toNat)
 case atStart=>exact ⟨0,rfl,by omega,HO4.out,HB4.out⟩
 case round =>
  obtain ⟨k,rfl,hk,how,hbel⟩:=hrel
  have HB:=hidden hbel
  have HO:=hidden how
  have hzr:=hbel.size
  clear hbel how
  by_cases hlt:k<l.length
  ·have hkD:k<D.length:=by rw [HDL.out];exact hlt
   have hval:D[k]=(l[k]-lo).toNat:=by
    have:=HG.out k hlt
    rw [List.getElem?_eq_getElem hkD] at this
    exact Option.some.inj this
   obtain ⟨b,off,rfl,hb,hck⟩:=(HS.out.kept HB.out).at hlt
   have hd:=fun W=>distance_up (w:=W) HLI.out (HI.out.get hlt) (HLE.out _ (List.getElem_mem hlt))
   rw [← hval] at hd
   have HD:=hidden hd
   have hfl:k<(fill D k).length:=by rw [fill_length (by omega)];exact hkD
   have hck5:=(HO.out.cellAt k (by omega)).trans (vals_get hfl)
   have hfr5:=HO.out.frozenAt k
   have hST:=HO.out.stored k (.int .u64 ((D[k]:Nat):Int))
   rw [vals_set,fill_set hkD] at hST
   have HST:=hidden hST
   have hgz:=(HO.out.lt w1.heap.size rfl).2
   clear hd hval hST
   generalize l[k]=x at *
   generalize (fill D k)[k]=y at *
   generalize D[k]=z at *
   go_wp2_with fail
   refine (HD.out _).mono ?_
   rintro e w5 ⟨rfl,rfl⟩
   go_wp2_with fail
   go_roundw
   case rel=>exact ⟨k+1,by go_num,by omega,HST.out.1,below_set HB.out (Nat.le_refl _) _⟩
   case measure=>simp [intOf];omega
  ·obtain rfl:k=l.length:=by omega
   have e:fill D l.length=D:=by
    have:=fill_all D
    rwa [HDL.out] at this
   have HO':Hid (OwnU wr w1.heap.size (.slice (some ⟨w1.heap.size,0,none⟩) l.length l.length) D):=by
    show OwnU _ _ _ _
    have:=HO.out
    rw [e] at this
    unfold OwnU
    rw [HDL.out]
    exact this
   have HWd:=hidden (width_any HO'.out.sv.sx H64.out)
   clear HO e
   generalize wd D=wdt at *
   go_wp2_with fail
   refine HWd.out.mono ?_
   rintro e w5 ⟨rfl,rfl⟩
   go_wp2_with fail
   refine (putInt_told HLI.out _).mono ?_
   rintro e w6 ⟨⟨v6,rfl,ho6⟩,hb6⟩
   have HO6:=hidden ho6
   have HB6:=hidden hb6
   have hz6:=hb6.size
   clear ho6 hb6
   go_wp2_with fail
   refine (vput_told wdt (by omega) _).mono ?_
   rintro e w7 ⟨⟨v7,rfl,ho7⟩,hb7⟩
   have HO7:=hidden ho7
   have HO67:=hidden (HO6.out.kept hb7)
   have HB7:=hidden (HB6.out.trans (hb7.mono hz6))
   have hz7:=hb7.size
   have h102:=uv_ten (n:=wdt) (by omega)
   clear ho7 hb7
   go_wp2_with (first | (at_builtin;refine wpList_append_sv rfl _ _ rfl w5.heap.size _ _ (wv lo) (uv wdt) rfl HO67.out rfl HO7.out.sv ?c1 ?c2 ?_))
   case c1=>omega
   case c2=>omega
   intro v8 w8 o8 b8
   have HO8:=hidden o8
   have HB8:=hidden (HB7.out.trans b8)
   have hz8:=HB8.out.size
   clear o8 b8
   have HOD:=hidden (HO'.out.kept HB8.out)
   go_wp2_with fail
   refine (packI_any HOD.out.sv.sx H64.out _).mono ?_
   rintro e w9 ⟨⟨v9,rfl,ho9⟩,hb9⟩
   have HO9:=hidden ho9
   have HO89:=hidden (HO8.out.kept hb9)
   have HB9:=hidden (HB8.out.trans (hb9.mono hz8))
   have hz9:=hb9.size
   clear ho9 hb9
   go_wp2_with (first | (at_builtin;refine wpList_append_sv rfl _ _ rfl w5.heap.size _ _ (wv lo++uv wdt) _ rfl HO89.out rfl HO9.out.sv ?c3 ?c4 ?_))
   case c3=>simp;omega
   case c4=>omega
   intro vA wA oA bA
   have HOA:=hidden oA
   have HBA:=hidden (HB.out.trans ((HB9.out.trans bA).mono hzr))
   clear oA bA
   go_wp2_with fail
   go_ret
   refine ⟨⟨_,rfl,?_⟩,HBA.out⟩
   rw [HE.out]
   have:=HOA.out.low hzr
   simpa using this
theorem putHeights_any {w:World} {v:Value} {l:List Int} (hs:Sv w v (ivals l)) (hl:l.length<=256) (hi:Is l):Calls Tryz.prog 230 #[v] w (Told w (enc4 l)):=by
 rcases Nat.eq_zero_or_pos l.length with h0 | h0
 ·obtain rfl:l=[]:=List.eq_nil_of_length_eq_zero h0
  exact putHeights_none hs
 ·exact putHeights_some hs hl hi h0
end Go.Proofs.YtpljdjmpamjkhaaGreatDoor
set_option linter.unusedVariables false
set_option linter.unusedSimpArgs false
namespace Go.Proofs.YtpljdjmpamjkhaaGreatDoor
open Go.RowKit Go.Lib
theorem encoders_any (w:World):Calls Tryz.prog 200 #[] w fun e w'=>e=.returned (.agg #[.func (.func 226) #[] #[],.func (.func 227) #[] #[],.func (.func 228) #[] #[],.func (.func 229) #[] #[],.func (.func 230) #[] #[]])/\Below w.heap.size w w':=by
 go_enter Tryz.func200,Tryz.ntmps200
 go_wp2_with fail
 exact bodyPost_ret (v:=.agg #[.func (.func 226) #[] #[],.func (.func 227) #[] #[],.func (.func 228) #[] #[],.func (.func 229) #[] #[],.func (.func 230) #[] #[]]) (by simp [results,Tryz.results200,go_sem]) rfl ⟨rfl,(Below.refl _ _).alloc (Nat.le_refl _) _⟩
def encM (c:Nat) (l:List Int):List Nat:=if c<=4/\l.length<=256 then encC c l else []
theorem encode_0 {w:World} {v:Value} {l:List Int} (hs:Sv w v (ivals l)) (hl:l.length<=256) (hi:Is l) :
  Calls Tryz.prog 319 #[.int .u8 0,v] w fun e w'=>(∃ v',e=.returned (.tuple #[v',.bool true])/\OwnB w' w.heap.size v' (enc0 l))/\Below w.heap.size w w':=by
 have HS:=hidden hs
 have HI:=hidden hi
 obtain ⟨a,cap,rfl,hcap,hcm⟩:=hs.form
 have hgt:¬ (l.length:Int) > 256:=by omega
 clear hs hcap hcm hi
 go_enter Tryz.func319,Tryz.ntmps319
 go_wp2_with fail
 refine (encoders_any _).mono ?_
 rintro e w1 ⟨rfl,hb1⟩
 have HB1:=hidden hb1
 have hz1:=hb1.size
 clear hb1
 go_wp2_with fail
 have HB2:=hidden (HB1.out.alloc hz1 (.cells #[.func (.func 226) #[] #[],.func (.func 227) #[] #[],.func (.func 228) #[] #[],.func (.func 229) #[] #[],.func (.func 230) #[] #[]] 246))
 have hz2:=HB2.out.size
 refine (putEach_any (HS.out.kept HB2.out) hl HI.out).mono ?_
 rintro e w3 ⟨⟨v3,rfl,ho3⟩,hb3⟩
 have HO3:=hidden (ho3.low hz2)
 have HB3:=hidden (HB2.out.trans (hb3.mono hz2))
 clear ho3 hb3
 go_wp2_with fail
 go_ret2
 exact ⟨⟨_,rfl,HO3.out⟩,HB3.out⟩
theorem encode_1 {w:World} {v:Value} {l:List Int} (hs:Sv w v (ivals l)) (hl:l.length<=256) (hi:Is l) :
  Calls Tryz.prog 319 #[.int .u8 1,v] w fun e w'=>(∃ v',e=.returned (.tuple #[v',.bool true])/\OwnB w' w.heap.size v' (enc1 0 l))/\Below w.heap.size w w':=by
 have HS:=hidden hs
 have HI:=hidden hi
 obtain ⟨a,cap,rfl,hcap,hcm⟩:=hs.form
 have hgt:¬ (l.length:Int) > 256:=by omega
 clear hs hcap hcm hi
 go_enter Tryz.func319,Tryz.ntmps319
 go_wp2_with fail
 refine (encoders_any _).mono ?_
 rintro e w1 ⟨rfl,hb1⟩
 have HB1:=hidden hb1
 have hz1:=hb1.size
 clear hb1
 go_wp2_with fail
 have HB2:=hidden (HB1.out.alloc hz1 (.cells #[.func (.func 226) #[] #[],.func (.func 227) #[] #[],.func (.func 228) #[] #[],.func (.func 229) #[] #[],.func (.func 230) #[] #[]] 246))
 have hz2:=HB2.out.size
 refine (putSteps_any (HS.out.kept HB2.out) hl HI.out).mono ?_
 rintro e w3 ⟨⟨v3,rfl,ho3⟩,hb3⟩
 have HO3:=hidden (ho3.low hz2)
 have HB3:=hidden (HB2.out.trans (hb3.mono hz2))
 clear ho3 hb3
 go_wp2_with fail
 go_ret2
 exact ⟨⟨_,rfl,HO3.out⟩,HB3.out⟩
theorem encode_2 {w:World} {v:Value} {l:List Int} (hs:Sv w v (ivals l)) (hl:l.length<=256) (hi:Is l) :
  Calls Tryz.prog 319 #[.int .u8 2,v] w fun e w'=>(∃ v',e=.returned (.tuple #[v',.bool true])/\OwnB w' w.heap.size v' (enc2 l))/\Below w.heap.size w w':=by
 have HS:=hidden hs
 have HI:=hidden hi
 obtain ⟨a,cap,rfl,hcap,hcm⟩:=hs.form
 have hgt:¬ (l.length:Int) > 256:=by omega
 clear hs hcap hcm hi
 go_enter Tryz.func319,Tryz.ntmps319
 go_wp2_with fail
 refine (encoders_any _).mono ?_
 rintro e w1 ⟨rfl,hb1⟩
 have HB1:=hidden hb1
 have hz1:=hb1.size
 clear hb1
 go_wp2_with fail
 have HB2:=hidden (HB1.out.alloc hz1 (.cells #[.func (.func 226) #[] #[],.func (.func 227) #[] #[],.func (.func 228) #[] #[],.func (.func 229) #[] #[],.func (.func 230) #[] #[]] 246))
 have hz2:=HB2.out.size
 refine (putRuns_any (HS.out.kept HB2.out) hl HI.out).mono ?_
 rintro e w3 ⟨⟨v3,rfl,ho3⟩,hb3⟩
 have HO3:=hidden (ho3.low hz2)
 have HB3:=hidden (HB2.out.trans (hb3.mono hz2))
 clear ho3 hb3
 go_wp2_with fail
 go_ret2
 exact ⟨⟨_,rfl,HO3.out⟩,HB3.out⟩
theorem encode_3 {w:World} {v:Value} {l:List Int} (hs:Sv w v (ivals l)) (hl:l.length<=256) (hi:Is l) :
  Calls Tryz.prog 319 #[.int .u8 3,v] w fun e w'=>(∃ v',e=.returned (.tuple #[v',.bool true])/\OwnB w' w.heap.size v' (enc3 l))/\Below w.heap.size w w':=by
 have HS:=hidden hs
 have HI:=hidden hi
 obtain ⟨a,cap,rfl,hcap,hcm⟩:=hs.form
 have hgt:¬ (l.length:Int) > 256:=by omega
 clear hs hcap hcm hi
 go_enter Tryz.func319,Tryz.ntmps319
 go_wp2_with fail
 refine (encoders_any _).mono ?_
 rintro e w1 ⟨rfl,hb1⟩
 have HB1:=hidden hb1
 have hz1:=hb1.size
 clear hb1
 go_wp2_with fail
 have HB2:=hidden (HB1.out.alloc hz1 (.cells #[.func (.func 226) #[] #[],.func (.func 227) #[] #[],.func (.func 228) #[] #[],.func (.func 229) #[] #[],.func (.func 230) #[] #[]] 246))
 have hz2:=HB2.out.size
 refine (putPlaces_any (HS.out.kept HB2.out) hl HI.out).mono ?_
 rintro e w3 ⟨⟨v3,rfl,ho3⟩,hb3⟩
 have HO3:=hidden (ho3.low hz2)
 have HB3:=hidden (HB2.out.trans (hb3.mono hz2))
 clear ho3 hb3
 go_wp2_with fail
 go_ret2
 exact ⟨⟨_,rfl,HO3.out⟩,HB3.out⟩
theorem encode_4 {w:World} {v:Value} {l:List Int} (hs:Sv w v (ivals l)) (hl:l.length<=256) (hi:Is l) :
  Calls Tryz.prog 319 #[.int .u8 4,v] w fun e w'=>(∃ v',e=.returned (.tuple #[v',.bool true])/\OwnB w' w.heap.size v' (enc4 l))/\Below w.heap.size w w':=by
 have HS:=hidden hs
 have HI:=hidden hi
 obtain ⟨a,cap,rfl,hcap,hcm⟩:=hs.form
 have hgt:¬ (l.length:Int) > 256:=by omega
 clear hs hcap hcm hi
 go_enter Tryz.func319,Tryz.ntmps319
 go_wp2_with fail
 refine (encoders_any _).mono ?_
 rintro e w1 ⟨rfl,hb1⟩
 have HB1:=hidden hb1
 have hz1:=hb1.size
 clear hb1
 go_wp2_with fail
 have HB2:=hidden (HB1.out.alloc hz1 (.cells #[.func (.func 226) #[] #[],.func (.func 227) #[] #[],.func (.func 228) #[] #[],.func (.func 229) #[] #[],.func (.func 230) #[] #[]] 246))
 have hz2:=HB2.out.size
 refine (putHeights_any (HS.out.kept HB2.out) hl HI.out).mono ?_
 rintro e w3 ⟨⟨v3,rfl,ho3⟩,hb3⟩
 have HO3:=hidden (ho3.low hz2)
 have HB3:=hidden (HB2.out.trans (hb3.mono hz2))
 clear ho3 hb3
 go_wp2_with fail
 go_ret2
 exact ⟨⟨_,rfl,HO3.out⟩,HB3.out⟩
theorem encode_no {w:World} {v:Value} {l:List Int} (hs:Sv w v (ivals l)) (c:Nat) (hc:c<256) (hno:¬ (c<=4/\l.length<=256)) :
  Calls Tryz.prog 319 #[.int .u8 (c:Int),v] w fun e w'=>(∃ v',e=.returned (.tuple #[v',.bool false])/\OwnB w' w.heap.size v' [])/\Below w.heap.size w w':=by
 obtain ⟨a,cap,rfl,hcap,hcm⟩:=hs.form
 have hm:l.length<=9223372036854775807:=by unfold maxLen at hcm;omega
 clear hs hcap hcm
 by_cases h5:(c:Int)>=5
 ·go_enter Tryz.func319,Tryz.ntmps319
  go_wp2_with fail
  go_ret2
  exact ⟨⟨_,rfl,OwnB.nil _ _⟩,Below.refl _ _⟩
 ·have hgt:(l.length:Int) > 256:=by omega
  go_enter Tryz.func319,Tryz.ntmps319
  go_wp2_with fail
  go_ret2
  exact ⟨⟨_,rfl,OwnB.nil _ _⟩,Below.refl _ _⟩
theorem encode_any {w:World} {v:Value} {l:List Int} (hs:Sv w v (ivals l)) (hi:Is l) (c:Nat) (hc:c<256) :
  Calls Tryz.prog 319 #[.int .u8 (c:Int),v] w fun e w'=>(∃ v',e=.returned (.tuple #[v',.bool (decide (c<=4/\l.length<=256))])/\OwnB w' w.heap.size v' (encM c l))/\Below w.heap.size w w':=by
 by_cases h:c<=4/\l.length<=256
 ·rw [decide_eq_true h]
  unfold encM
  rw [if_pos h]
  obtain ⟨h4,hl⟩:=h
  match c,h4 with
  | 0,_=>exact encode_0 hs hl hi
  | 1,_=>exact encode_1 hs hl hi
  | 2,_=>exact encode_2 hs hl hi
  | 3,_=>exact encode_3 hs hl hi
  | 4,_=>exact encode_4 hs hl hi
 ·rw [decide_eq_false h]
  unfold encM
  rw [if_neg h]
  exact encode_no hs c hc h
end Go.Proofs.YtpljdjmpamjkhaaGreatDoor
