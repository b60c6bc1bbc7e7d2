/- What nfaMatches_proved stands on, part 9 of 10. -/
import Derived.Test.YtakhljnkmbpmpaaDoorCm8
namespace Go.Proofs.YtakhljnkmbpmpaaDoor
open Go.RowKit Abs
set_option maxRecDepth 100000 in
theorem make_bools2(m:Nat)(hm:m≤1000)(h:AHeap):opMakeSlice Tryd.prog h 50 (some (.int .i64 (m:Int))) (some (.int .i64 (m:Int)))=outNewS h TBo (bl m (fun _=>false)) m 1:=by
 have e:opMakeSlice Tryd.prog h 50 (some (.int .i64 (m:Int))) (some (.int .i64 (m:Int)))=(if Nat.ble m m=true∧bytesFit Tryd.prog TBo m=true then outNewS h TBo (List.replicate m [AV.bool false]).flatten m 1 else none):=by kernel_rfl
 rw[e,if_pos ⟨by simp,bytesFit_of (B:=1) (by kernel_rfl) (by omega) (by omega)⟩,List.flatten_replicate_singleton,bl_none]
def Tr(h:AHeap)(v:AV)(m:Nat)(f:Nat→Bool):Prop:=∃b,v=.sl b 0 m 1∧RowH h b TBo (bl m f)∧b<h.next
section
variable {h h':AHeap}{v w:AV}{m n d:Nat}{f g:Nat→Bool}{Q:ARes→AHeap→Prop}
theorem Tr.keep(k:Tr h v m f)(t:Tch [] h h'):Tr h' v m f:=by
 obtain⟨b,e,k1,k2⟩:=k
 exact⟨b,e,k1.tch t k2 (by simp),Nat.lt_of_lt_of_le k2 t.1⟩
theorem bl_lt{f g:Nat→Bool}{m:Nat}(h:∀j,j<m→f j=g j):bl m f=bl m g:=by
 refine List.ext_getElem? fun j=>?_
 by_cases hj:j<m
 ·rw[bl_get hj,bl_get hj,h j hj]
 ·rw[List.getElem?_eq_none (by rw[bl_len];omega),List.getElem?_eq_none (by rw[bl_len];omega)]
theorem Tr.congr(k:Tr h v m f)(e:∀j,j<m→f j=g j):Tr h v m g:=by
 obtain⟨b,e1,k1,k2⟩:=k
 exact⟨b,e1,by rw[←bl_lt e];exact k1,k2⟩
theorem Tr.idx(k:Tr h v m f){i:Nat}(hi:i<m):∃p,idxP 1 v (i:Int)=some p∧ldCell h p=some (.bool (f i)):=by
 obtain⟨b,rfl,k1,_⟩:=k
 exact⟨_,idx_sl hi,RowH.cell' k1 (bl_get hi f)⟩
theorem Tr.len(k:Tr h v m f):lenL v=some (m:Int):=by
 obtain⟨b,rfl,_,_⟩:=k
 rfl
theorem quo8_64{c:Nat}(h:c<256):quoI .u8 (c:Int) 64=some ((c/64:Nat):Int):=by
 unfold quoI
 rw[if_neg (by decide),Int.tdiv_eq_ediv_of_nonneg (by omega),wrap_u8 (by omega) (by omega)]
 congr 1
theorem rem8_64{c:Nat}:remI .u8 (c:Int) 64=some ((c%64:Nat):Int):=by
 unfold remI
 rw[if_neg (by decide),Int.tmod_eq_emod_of_nonneg (by omega)]
 congr 1
theorem has_w{ws:List Nat}(hw:WordsOk ws){c:Nat}(hc:c<256):worldR n (d+1) 47 [.agg (wordsA ws),.int .u8 (c:Int)] h=some (.ret (.bool (inW ws c)),h):=by
 apply Wp.eq
 rw[w_ref09_Has]
 refine Wp.gc ?_
 suffices hK:Wp (ref09_Has (worldR n d) n (wordsA ws) (c:Int) h) fun r h'=>r=.ret (.bool (inW ws c))∧Tch [] h h' from hK.mono fun r h' ⟨e,t⟩=>⟨t.above,by rw[e];rfl,e,rfl⟩
 unfold ref09_Has
 have Mx:=Mem.nil [] h
 have hi4:c/64<4:=by omega
 refine Wp.mbox Mx (wordsA_one ws) fun h1 M1=>?_
 have q1:=quo8_64 hc
 have q2:=idxA_ptr (b:=h.next) (o:=0) hi4
 have q3:=rem8_64 (c:=c)
 have g1:=get_words (pre:=[]) (post:=[]) (w:=ws) (i:=c/64) (by rw[hw.len];exact hi4)
 rw[List.append_nil,List.nil_append,List.length_nil] at g1
 have q4:ldCell h1 (.ptr h.next (0+c/64))=some (.int .u64 ((ws.getD (c/64) 0:Nat):Int)):=RowH.cell' M1.at0.1 g1
 have e1:=shr_bit (x:=ws.getD (c/64) 0) (Nat.mod_lt c (show 0<64 by decide))
 have e2:andI .u64 ((ws.getD (c/64) 0>>>(c%64):Nat):Int) 1=(((inW ws c).toNat:Nat):Int):=by
  rw[show (1:Int)=((1:Nat):Int) from rfl,andI_nat (shr_small (hw.get _)) (by decide),bit_and1]
  rfl
 repeat(with_reducible first|refine Wp.lett ?_|(apply Wp.obind;first|exact q1|exact q2|exact q3|exact q4|exact e1|exact avInt_int _ _))
 rw[e2]
 refine Wp.ret ⟨?_,M1.tch⟩
 cases inW ws c<;>rfl
theorem both_loop{k9:AHeap→R}{b9:Nat}(kv:Tr h v m f)(kw:Tr h w m g)(hm:m<1000)(hk:∀H,Abs.Mem [] h H [(b9,TBo,bl m fun j=>f j||g j)]→Wp (k9 H) Q):∀(q fu i:Nat) (H:AHeap),q<fu→i+q=m→Abs.Mem [] h H [(b9,TBo,bl m fun j=>if j<i then f j||g j else false)]→Wp (ref10_both_L0 v w (.sl b9 0 m 1) k9 fu (i:Int) H) Q
 |_,0,_,_,hf,_,_=>by omega
 |0,fu+1,i,H,hf,hq,M=>by
  rw[ref10_both_L0_s]
  unfold ref10_both_L0b
  have e0:=kv.len
  repeat(first|(with_reducible first|refine Wp.lett ?_|(apply Wp.obind;exact e0))|((with_reducible refine Wp.iff ?_ ?_;apply decide_eq_false);omega))
  refine hk H ?_
  rw[bl_lt (g:=fun j=>f j||g j) (fun j hj=>by rw[if_pos (by omega)])] at M
  exact M
 | q + 1, fu + 1, i, H, hf, hq, M => by
  have el:(i:Int)+1=((i+1:Nat):Int):=by omega
  have e0:=kv.len
  obtain⟨p1,i1,c1⟩:=(kv.keep M.tch).idx (i:=i) (by omega)
  obtain⟨p2,i2,c2⟩:=(kw.keep M.tch).idx (i:=i) (by omega)
  have i3:=idx_sl (b:=b9) (m:=m) (i:=i) (by omega)
  have fin:=fun H M=>both_loop kv kw hm hk q fu (i+1) H (by omega) (by omega) M
  have step:∀{c:Bool} {h2:AHeap},(f i||g i)=c→Abs.Mem [] h h2 [(b9,TBo,(bl m fun j=>if j<i then f j||g j else false).set i (.bool c))]→Abs.Mem [] h h2 [(b9,TBo,bl m fun j=>if j<i+1 then f j||g j else false)]:=by
   intro c h2 hc M2
   rw[bl_set (g:=fun j=>if j<i+1 then f j||g j else false) (by rw[if_pos (by omega),hc]) (fun j hj=>by
    by_cases h1:j<i
    ·rw[if_pos h1,if_pos (by omega)]
    ·rw[if_neg h1,if_neg (by omega)])] at M2
   exact M2
  rw[ref10_both_L0_s]
  unfold ref10_both_L0b
  cases hfi:f i with
  |true=>
   rw[hfi] at c1
   repeat(first|(with_reducible first|refine Wp.join1 (fun _ _=>?_)|refine Wp.lett ?_|(apply Wp.obind;first|exact e0|exact i1|exact c1|exact i3|exact avBool_bool _))|((with_reducible refine Wp.ift ?_ ?_);first|(with_reducible rfl)|((with_reducible apply decide_eq_true);omega))|(with_reducible refine Wp.go1 (by assumption) ?_))
   refine Wp.ms0 M (by rw[bl_len];omega) rfl fun h2 M2=>?_
   repeat(((with_reducible refine Wp.lettw ?_ ?_ ?_);omega;omega))
   rw[el]
   exact fin h2 (step (by rw[hfi];rfl) M2)
  |false=>
   rw[hfi] at c1
   repeat(first|(with_reducible first|refine Wp.join1 (fun _ _=>?_)|refine Wp.lett ?_|(apply Wp.obind;first|exact e0|exact i1|exact c1|exact i2|exact c2|exact i3|exact avBool_bool _))|((with_reducible refine Wp.ift ?_ ?_;apply decide_eq_true);omega)|(with_reducible first|(refine Wp.iff ?_ ?_;rfl)|refine Wp.go1 (by assumption) ?_))
   refine Wp.ms0 M (by rw[bl_len];omega) rfl fun h2 M2=>?_
   repeat(((with_reducible refine Wp.lettw ?_ ?_ ?_);omega;omega))
   rw[el]
   exact fin h2 (step (by rw[hfi];rfl) M2)
theorem both_r(kv:Tr h v m f)(kw:Tr h w m g)(hm:m<1000)(hn:1000<n)(hx:memB TBo h.ex=false):∃v' h',worldR n (d+1) 48 [v,w] h=some (.ret v',h')∧Tr h' v' m (fun j=>f j||g j)∧Tch [] h h':=by
 suffices hK:Wp (worldR n (d+1) 48 [v,w] h) fun r h'=>∃v',r=.ret v'∧Tr h' v' m (fun j=>f j||g j)∧Tch [] h h' by
  obtain⟨_,h',e,v',rfl,k⟩:=hK
  exact⟨v',h',e,k⟩
 rw[w_ref10_both]
 unfold ref10_both
 have e0:=kv.len
 have M:=Mem.nil [] h
 refine Wp.obind e0 ?_
 refine Wp.mnews M (make_bools2 m (by omega) h) (bl_one _ _) hx fun h4 M4=>?_
 ((with_reducible refine Wp.join0 (fun _ _=>?_)))
 rename_i k9 ek9
 refine both_loop kv kw hm (fun H MH=>?_) m n 0 h4 (by omega) (Nat.zero_add _) (by rw[bl_ext (f:=fun j=>if j<0 then f j||g j else false) (g:=fun _=>false) (fun j=>if_neg (Nat.not_lt_zero j))];exact M4)
 rw[ek9]
 exact Wp.ret ⟨_,rfl,⟨_,rfl,MH.at0.1,MH.at0.2.1⟩,MH.tch⟩
theorem start_r{s:Bytes}(hs:s.length<999)(hx:memB TBo h.ex=false):∃v' h',worldR n (d+1) 32 [strA s] h=some (.ret v',h')∧Tr h' v' (s.length+1) (fun j=>decide (j=0))∧Tch [] h h':=by
 suffices hK:Wp (gcR h (ref10_start (worldR n d) n s h)) fun r h'=>∃b,r=.ret (.sl b 0 (s.length+1) 1)∧Abs.Mem [] h h' [(b,TBo,bl (s.length+1) fun j=>decide (j=0))] by
  obtain⟨_,h',e,b,rfl,k⟩:=hK
  rw[←w_ref10_start] at e
  exact⟨_,h',e,⟨b,rfl,k.at0.1,k.at0.2.1⟩,k.tch⟩
 suffices hK:Wp (ref10_start (worldR n d) n s h) fun r h'=>∃b,r=.ret (.sl b 0 (s.length+1) 1)∧Abs.Mem [] h h' [(b,TBo,bl (s.length+1) fun j=>decide (j=0))] by
  obtain⟨_,h',e,b,rfl,k⟩:=hK
  refine Wp.gc2 ⟨_,h',e,⟨b,rfl,k⟩,fun _ hl=>?_⟩
  have h2:=k.at0.2.2.resolve_left (by simp)
  have h1:AV.lo h.next (.sl b 0 (s.length+1) 1)=true:=hl
  have h3:b<h.next:=by simpa [AV.lo] using h1
  omega
 unfold ref10_start
 have ll:=lenS_nat s
 have el:lenS s+1=((s.length+1:Nat):Int):=by omega
 have M:=Mem.nil [] h
 (((with_reducible refine Wp.lettw ?_ ?_ ?_);omega;omega))
 rw[el]
 refine Wp.mnews M (make_bools2 _ (by omega) h) (bl_one _ _) hx fun h4 M4=>?_
 have i1:idxP 1 (.sl h.next 0 (s.length+1) 1) 0=some (.ptr h.next 0):=idx_sl (i:=0) (by omega)
 refine Wp.obind i1 ?_
 refine Wp.ms0 M4 (by rw[bl_len];omega) rfl fun h6 M6=>?_
 rw[bl_set (i:=0) (b:=true) (g:=fun j=>decide (j=0)) rfl (fun j hj=>by rw[decide_eq_false hj])] at M6
 exact Wp.ret ⟨_,rfl,M6⟩
end
def seg(s:Bytes)(i j:Nat):List Nat:=((s.drop i).take (j - i)).map UInt8.toNat
noncomputable def endsB(P:List Nat→Prop)(s:Bytes)(f:Nat→Bool)(j:Nat):Bool:= @decide (∃i,i≤j∧f i=true∧P (seg s i j)) (Classical.propDecidable _)
section
variable {P R:List Nat→Prop}{s:Bytes}{f g g':Nat→Bool}{i j k:Nat}
theorem ends_iff:endsB P s f j=true↔∃i,i≤j∧f i=true∧P (seg s i j):= @decide_eq_true_iff _ (Classical.propDecidable _)
theorem seg_len(h:i≤j)(hj:j≤s.length):(seg s i j).length=j - i:=by
 unfold seg
 rw[List.length_map,List.length_take,List.length_drop]
 omega
theorem seg_self(i:Nat):seg s i i=[]:=by
 unfold seg
 rw[Nat.sub_self]
 rfl
theorem seg_app(h1:i≤k)(h2:k≤j):seg s i j=seg s i k++seg s k j:=by
 unfold seg
 rw[←List.map_append]
 congr 1
 have e:j - i=(k - i)+(j - k):=by omega
 rw[e,List.take_add,List.drop_drop]
 congr 3
 omega
theorem seg_split{a b:List Nat}(h:i≤j)(hj:j≤s.length)(e:seg s i j=a++b):∃k,i≤k∧k≤j∧seg s i k=a∧seg s k j=b:=by
 have l:=congrArg List.length e
 rw[seg_len h hj,List.length_append] at l
 refine⟨i+a.length,by omega,by omega,?_⟩
 rw[seg_app (k:=i+a.length) (by omega) (by omega)] at e
 exact List.append_inj e (by rw[seg_len (by omega) (by omega)];omega)
theorem ends_cat(hj:j≤s.length):endsB (Cat P R) s f j=endsB R s (endsB P s f) j:=by
 refine bool_ext ?_
 rw[ends_iff,ends_iff]
 constructor
 ·rintro ⟨i, hi, hf, a, b, e, ha, hb⟩
  obtain⟨k,h1,h2,rfl,rfl⟩:=seg_split hi hj e
  exact⟨k,h2,ends_iff.2 ⟨i,h1,hf,ha⟩,hb⟩
 ·rintro ⟨k, hk, he, hb⟩
  obtain⟨i,hi,hf,ha⟩:=ends_iff.1 he
  exact⟨i,by omega,hf,_,_,seg_app hi hk,ha,hb⟩
theorem ends_nil(hj:j≤s.length):endsB (fun u=>u=[]) s f j=f j:=by
 refine bool_ext ?_
 rw[ends_iff]
 constructor
 ·rintro ⟨i, hi, hf, e⟩
  have:=congrArg List.length e
  rw[seg_len hi hj,List.length_nil] at this
  rw[show j=i by omega]
  exact hf
 ·exact fun h=>⟨j,Nat.le_refl _,h,seg_self j⟩
theorem ends_or:endsB (fun u=>P u∨R u) s f j=(endsB P s f j||endsB R s f j):=by
 refine bool_ext ?_
 rw[Bool.or_eq_true,ends_iff,ends_iff,ends_iff]
 constructor
 ·rintro ⟨i, hi, hf, h | h⟩
  ·exact .inl ⟨i,hi,hf,h⟩
  ·exact .inr ⟨i,hi,hf,h⟩
 ·rintro (⟨i, hi, hf, h⟩ | ⟨i, hi, hf, h⟩)
  ·exact⟨i,hi,hf,.inl h⟩
  ·exact⟨i,hi,hf,.inr h⟩
theorem ends_false:endsB (fun _=>False) s f j=false:=by
 cases h:endsB (fun _=>False) s f j with
 |false=>rfl
 |true=>
  obtain⟨_,_,_,h⟩:=ends_iff.1 h
  exact h.elim
theorem ends_set0{w:List Nat}:endsB (fun u=>∃c,u=[c]∧inW w c=true) s f 0=false:=by
 cases h:endsB (fun u=>∃c,u=[c]∧inW w c=true) s f 0 with
 |false=>rfl
 |true=>
  obtain⟨i,hi,_,c,e,_⟩:=ends_iff.1 h
  obtain rfl:i=0:=by omega
  rw[seg_self] at e
  cases e
theorem ends_set{w:List Nat}(hj:j<s.length):endsB (fun u=>∃c,u=[c]∧inW w c=true) s f (j+1)=(f j&&inW w (s[j]).toNat):=by
 have e1:seg s j (j+1)=[(s[j]).toNat]:=by
  unfold seg
  rw[List.drop_eq_getElem_cons hj,show j+1 - j=1 by omega]
  rfl
 refine bool_ext ?_
 rw[ends_iff,Bool.and_eq_true]
 constructor
 ·rintro ⟨i, hi, hf, c, e, hc⟩
  have:=congrArg List.length e
  rw[seg_len hi (by omega)] at this
  obtain rfl:i=j:=by
   have:j+1 - i=1:=this
   omega
  rw[e1] at e
  cases e
  exact⟨hf,hc⟩
 ·rintro ⟨hf, hc⟩
  exact⟨j,by omega,hf,_,e1,hc⟩
def Star(P:List Nat→Prop)(u:List Nat):Prop:=u=[]∨Plus P u
theorem star_step(h:endsB (Star P) s f i=true)(hi:i≤j)(hp:P (seg s i j)):endsB (Star P) s f j=true:=by
 obtain⟨i0,h0,hf,h⟩:=ends_iff.1 h
 refine ends_iff.2 ⟨i0,by omega,hf,.inr ?_⟩
 rw[seg_app h0 hi]
 rcases h with h|h
 ·rw [h]
  exact .one hp
 ·exact h.snoc hp
theorem closed_plus(hg:∀i j,i≤j→j≤s.length→g i=true→P (seg s i j)→g j=true){u:List Nat}(h:Plus P u):∀i j,i≤j→j≤s.length→seg s i j=u→g i=true→g j=true:=by
 induction h with
 |one h=>exact fun i j hi hj e hgi=>hg i j hi hj hgi (by rw[e];exact h)
 |more h _ ih=>
  intro i j hi hj e hgi
  obtain⟨k,h1,h2,e1,e2⟩:=seg_split hi hj e
  exact ih k j h2 hj e2 (hg i k h1 (by omega) hgi (by rw[e1];exact h))
theorem closed_star(hg:∀i j,i≤j→j≤s.length→g i=true→P (seg s i j)→g j=true)(hf:∀i,i≤s.length→f i=true→g i=true)(hj:j≤s.length)(h:endsB (Star P) s f j=true):g j=true:=by
 obtain⟨i,hi,hfi,h⟩:=ends_iff.1 h
 rcases h with h|h
 ·have := congrArg List.length h
  rw[seg_len hi hj,List.length_nil] at this
  rw[show j=i by omega]
  exact hf i (by omega) hfi
 ·exact closed_plus hg h i j hi hj rfl (hf i (by omega) hfi)
theorem ends_plus:endsB (Plus P) s f j=endsB (Star P) s (endsB P s f) j∨s.length<j:=by
 by_cases hj:j≤s.length
 ·refine .inl (bool_ext ?_)
  rw[ends_iff,ends_iff]
  constructor
  ·rintro ⟨i, hi, hf, h⟩
   generalize hu:seg s i j=u at h
   cases h with
   |one h=>exact⟨j,Nat.le_refl _,ends_iff.2 ⟨i,hi,hf,by rw[hu];exact h⟩,.inl (seg_self j)⟩
   |more h m=>
    obtain⟨k,h1,h2,e1,e2⟩:=seg_split hi hj hu
    exact⟨k,h2,ends_iff.2 ⟨i,h1,hf,by rw[e1];exact h⟩,.inr (by rw[e2];exact m)⟩
  ·rintro ⟨k, hk, he, h⟩
   obtain⟨i,hi,hf,hp⟩:=ends_iff.1 he
   refine⟨i,by omega,hf,?_⟩
   rw[seg_app hi hk]
   rcases h with h|h
   ·rw [h, List.append_nil]
    exact .one hp
   ·exact .more hp h
 ·exact .inr (by omega)
def cntF(g:Nat→Bool):Nat→Nat
 |0=>0
 |m+1=>cntF g m+(if g m=true then 0 else 1)
theorem cntF_le(h:∀j,g j=true→g' j=true):∀m,cntF g' m≤cntF g m
 |0=>Nat.le_refl _
 | m + 1 => by
  have:=cntF_le h m
  rw[cntF,cntF]
  by_cases h1:g m=true
  ·rw [if_pos h1, if_pos (h m h1)]
   exact this
  ·rw [if_neg h1]
   split<;>omega
theorem cntF_lt(h:∀j,g j=true→g' j=true):∀m,(∃j,j<m∧g j=false∧g' j=true)→cntF g' m<cntF g m
 |0,⟨_,hj,_⟩=>by omega
 | m + 1, ⟨j, hj, h1, h2⟩ => by
  rw[cntF,cntF]
  by_cases hm:j=m
  ·subst hm
   have:=cntF_le h j
   rw[if_pos h2,if_neg (by rw[h1];decide)]
   omega
  ·have := cntF_lt h m ⟨j, by omega, h1, h2⟩
   by_cases h3:g m=true
   ·rw [if_pos h3, if_pos (h m h3)]
    omega
   ·rw [if_neg h3]
    split<;>omega
theorem cntF_bnd(g:Nat→Bool):∀m,cntF g m≤m
 |0=>Nat.le_refl _
 |m+1=>by
  have:=cntF_bnd g m
  rw[cntF]
  split<;>omega
end
def EndsW(n D:Nat)(s:Bytes)(h0:AHeap)(c:List AV)(P:List Nat→Prop):Prop:=∀(f:Nat→Bool) (v:AV) (h:AHeap),Tch [] h0 h→Tr h v (s.length+1) f→
 ∃v' h',worldR n D 31 [.agg c,strA s,v] h=some (.ret v',h')∧Tr h' v' (s.length+1) (endsB P s f)∧Tch [] h h'
section
variable {n d p:Nat}{h h0:AHeap}{s:Bytes}{c:List AV}{P:List Nat→Prop}{f:Nat→Bool}{Q:ARes→AHeap→Prop}
theorem cmp_loop{k19:Bool→AHeap→R}{v r:AV}{m:Nat}{g g':Nat→Bool}{H:AHeap}(kr:Tr H r m g')(kv:Tr H v m g)(hm:m<1000)(hk:∀b:Bool,(b=false→∀j,j<m→g' j=g j)→(b=true→∃j,j<m∧g' j≠g j)→Wp (k19 b H) Q):
  ∀(q fu i:Nat) (acc:Bool),q<fu→i+q=m→(acc=false→∀j,j<i→g' j=g j)→(acc=true→∃j,j<m∧g' j≠g j)→Wp (ref10_again_L1 v r k19 fu acc (i:Int) H) Q
 |_,0,_,_,hf,_,_,_=>by omega
 |0,fu+1,i,acc,hf,hq,h1,h2=>by
  rw[ref10_again_L1_s]
  unfold ref10_again_L1b
  have e0:=kr.len
  repeat(first|(with_reducible first|refine Wp.lett ?_|(apply Wp.obind;exact e0))|((with_reducible refine Wp.iff ?_ ?_;apply decide_eq_false);omega))
  exact hk acc (fun e j hj=>h1 e j (by omega)) h2
 | q + 1, fu + 1, i, acc, hf, hq, h1, h2 => by
  have el:(i:Int)+1=((i+1:Nat):Int):=by omega
  have e0:=kr.len
  obtain⟨p1,i1,c1⟩:=kr.idx (i:=i) (by omega)
  obtain⟨p2,i2,c2⟩:=kv.idx (i:=i) (by omega)
  rw[ref10_again_L1_s]
  unfold ref10_again_L1b
  cases acc with
  |true=>
   repeat(first|(with_reducible refine Wp.join1 (fun _ _=>?_))|((with_reducible refine Wp.lettw ?_ ?_ ?_);omega;omega)|(with_reducible first|refine Wp.lett ?_|(apply Wp.obind;exact e0))|((with_reducible refine Wp.ift ?_ ?_);first|(with_reducible rfl)|((with_reducible apply decide_eq_true);omega))|(with_reducible refine Wp.go1 (by assumption) ?_))
   rw[el]
   exact cmp_loop kr kv hm hk q fu (i+1) true (by omega) (by omega) (fun e=>by cases e) h2
  | false =>
   repeat(first|(with_reducible refine Wp.join1 (fun _ _=>?_))|((with_reducible refine Wp.lettw ?_ ?_ ?_);omega;omega)|(with_reducible first|refine Wp.lett ?_|(apply Wp.obind;first|exact e0|exact i1|exact c1|exact i2|exact c2|exact avBool_bool _))|((with_reducible refine Wp.ift ?_ ?_;apply decide_eq_true);omega)|(with_reducible first|(refine Wp.iff ?_ ?_;rfl)|refine Wp.go1 (by assumption) ?_))
   rw[el]
   refine cmp_loop kr kv hm hk q fu (i+1) _ (by omega) (by omega) (fun e j hj=>?_) (fun e=>⟨i,by omega,fun he=>?_⟩)
   ·by_cases hji : j = i
    ·subst hji
     revert e
     cases g' j<;>cases g j<;>simp
    ·exact h1 rfl j (by omega)
   ·rw [he] at e
    revert e
    cases g i<;>simp
theorem again_loop(hE:EndsW n (d+1) s h0 c P)(h6:c.length=6)(kp:RowH h p TNode c)(hp:p<h.next)(ht:Tch [] h0 h)(hl:s.length<900)(hn:1000<n)(hx:memB TBo h0.ex=false):
  ∀(fu:Nat) (g:Nat→Bool) (v:AV) (H:AHeap),cntF g (s.length+1)<fu→Tch [] h H→Tr H v (s.length+1) g→(∀j,j≤s.length→f j=true→g j=true)→(∀j,j≤s.length→g j=true→endsB (Star P) s f j=true)→
   Wp (ref10_again_L0 (worldR n (d+1)) n s (.ptr p 0) fu v H) fun r h'=>∃v',r=.ret v'∧Tr h' v' (s.length+1) (endsB (Star P) s f)∧Tch [] h h'
 |0,_,_,_,hf,_,_,_,_=>by omega
 | fu + 1, g, v, H, hf, t, kv, hfg, hgs => by
  rw[ref10_again_L0_s]
  unfold ref10_again_L0b
  have e0:ldRow H 6 (.ptr p 0)=some c:=(kp.tch t hp (by simp)).ldAll h6
  refine Wp.obind e0 ?_
  obtain⟨v1,h1,e1,k1,t1⟩:=hE g v H (ht.trans t) kv
  refine Wp.callN e1 ?_
  have tA:=(ht.trans t).trans t1
  obtain⟨v2,h2,e2,k2,t2⟩:=both_r (n:=n) (d:=d) (kv.keep t1) k1 (by omega) hn (by rw[tA.2.1];exact hx)
  refine Wp.callN e2 ?_
  have kv2:=(kv.keep t1).keep t2
  have tB:=t.trans (t1.trans t2)
  ((with_reducible refine Wp.join1 (fun _ _=>?_)))
  rename_i k19 ek19
  refine cmp_loop k2 kv2 (by omega) (fun b hb1 hb2=>?_) (s.length+1) n 0 false (by omega) (Nat.zero_add _) (fun _ j hj=>by omega) (fun e=>by cases e)
  have up:∀j,g j=true→(g j||endsB P s g j)=true:=fun j hj=>by rw[hj];rfl
  have inv2:∀j,j≤s.length→(g j||endsB P s g j)=true→endsB (Star P) s f j=true:=by
   intro j hj hh
   rw[Bool.or_eq_true] at hh
   rcases hh with hh|hh
   ·exact hgs j hj hh
   ·obtain ⟨i, hi, hgi, hP⟩ := ends_iff.1 hh
    exact star_step (hgs i (by omega) hgi) hi hP
  rw[ek19]
  cases b with
  |false=>
   repeat(with_reducible first|refine Wp.lett ?_|(refine Wp.ift ?_ ?_;exact Bool.not_false))
   have eq:=hb1 rfl
   refine Wp.ret ⟨v2,rfl,k2.congr fun j hj=>?_,tB⟩
   refine bool_ext ⟨inv2 j (by omega),fun hs=>up j ?_⟩
   refine closed_star (g:=g) (fun i j hi hj hgi hP=>?_) hfg (by omega) hs
   have:=eq j (by omega)
   rw[←this,Bool.or_eq_true]
   exact .inr (ends_iff.2 ⟨i,hi,hgi,hP⟩)
  | true =>
   repeat(with_reducible first|refine Wp.lett ?_|(refine Wp.iff ?_ ?_;exact Bool.not_true))
   obtain⟨j,hj,hne⟩:=hb2 rfl
   refine again_loop hE h6 kp hp ht hl hn hx fu _ v2 h2 ?_ tB k2 (fun j hj hfj=>up j (hfg j hj hfj)) inv2
   have:=cntF_lt (g:=g) (g':=fun j=>g j||endsB P s g j) up (s.length+1) ⟨j,hj,?_⟩
   ·omega
   ·have hne' : (g j || endsB P s g j) ≠ g j := hne
    show g j=false∧(g j||endsB P s g j)=true
    revert hne'
    cases g j<;>cases endsB P s g j<;>simp
theorem again_r{v:AV}(hE:EndsW n (d+1) s h0 c P)(h6:c.length=6)(o6:c.all AV.one=true)(ht:Tch [] h0 h)(hl:s.length<900)(hn:1000<n)(hx:memB TBo h0.ex=false)(kv:Tr h v (s.length+1) f):
  ∃v' h',worldR n (d+2) 49 [.agg c,strA s,v] h=some (.ret v',h')∧Tr h' v' (s.length+1) (endsB (Star P) s f)∧Tch [] h h':=by
 suffices hK:Wp (worldR n (d+2) 49 [.agg c,strA s,v] h) fun r h'=>∃v',r=.ret v'∧Tr h' v' (s.length+1) (endsB (Star P) s f)∧Tch [] h h' by
  obtain⟨_,h',e,v',rfl,k⟩:=hK
  exact⟨v',h',e,k⟩
 rw[w_ref10_again]
 unfold ref10_again
 have M:=Mem.nil [] h
 refine Wp.mbox M o6 fun h1 M1=>?_
 have hb:=cntF_bnd f (s.length+1)
 refine(again_loop (f:=f) (h:=h1) hE h6 M1.at0.1 M1.at0.2.1 (ht.trans M1.tch) hl hn hx n f v h1 (by omega) (Tch.refl _ _) (kv.keep M1.tch) (fun _ _ h=>h) (fun j _ h=>ends_iff.2 ⟨j,Nat.le_refl _,h,.inl (seg_self j)⟩)).mono fun r h' ⟨v',e,k,t⟩=>⟨v',e,k,M1.tch.trans t⟩
end
inductive KidE (n D:Nat) (s:Bytes) (h0:AHeap):List (List AV)→List Nd→Prop
 |nil:KidE n D s h0 [] []
 |cons {c:List AV} {t:Nd} {l:List (List AV)} {ks:List Nd} (e:EndsW n D s h0 c (Lang t)) (k:KidE n D s h0 l ks):KidE n D s h0 (c::l) (t::ks)
theorem EndsW.keep{n D:Nat}{s:Bytes}{h0 h1:AHeap}{c:List AV}{P:List Nat→Prop}(k:EndsW n D s h0 c P)(t:Tch [] h0 h1):EndsW n D s h1 c P:=fun f v h a b=>k f v h (t.trans a) b
theorem KidE.keep{n D:Nat}{s:Bytes}{h0 h1:AHeap}{l:List (List AV)}{ks:List Nd}(k:KidE n D s h0 l ks)(t:Tch [] h0 h1):KidE n D s h1 l ks:=by
 induction k with
 |nil=>exact .nil
 |cons e _ ih=>exact .cons (e.keep t) ih
section
variable {n d p b9 op:Nat}{h h0:AHeap}{s:Bytes}{w:List Nat}{kv:AV}{K:List (List AV)}{T:List RowT}{f:Nat→Bool}{Q:ARes→AHeap→Prop}{v:AV}
theorem set_loop{k21:AHeap→R}(hw:WordsOk w)(kn:RowH h p TNode (nodeC op w kv))(hp:p<h.next)(kf:Tr h v (s.length+1) f)(hl:s.length<900)(hk:∀H,Abs.Mem [] h H [(b9,TBo,bl (s.length+1) (endsB (fun u=>∃c,u=[c]∧inW w c=true) s f))]→Wp (k21 H) Q):
  ∀(m fu i:Nat) (H:AHeap),m<fu→i+m=s.length→Abs.Mem [] h H [(b9,TBo,bl (s.length+1) fun j=>if j≤i then endsB (fun u=>∃c,u=[c]∧inW w c=true) s f j else false)]→
   Wp (ref10_Ends_L0 (worldR n (d+1)) s v (.ptr p 0) (.sl b9 0 (s.length+1) 1) k21 fu (i:Int) H) Q
 |_,0,_,_,hf,_,_=>by omega
 |0,fu+1,i,H,hf,hm,M=>by
  have ll:=lenS_nat s
  rw[ref10_Ends_L0_s]
  unfold ref10_Ends_L0b
  repeat(first|(with_reducible refine Wp.lett ?_)|((with_reducible refine Wp.iff ?_ ?_;apply decide_eq_false);omega))
  refine hk H ?_
  rw[bl_lt (g:=endsB (fun u=>∃c,u=[c]∧inW w c=true) s f) (fun j hj=>by rw[if_pos (by omega)])] at M
  exact M
 | m + 1, fu + 1, i, H, hf, hm, M => by
  have ll:=lenS_nat s
  have hi:i<s.length:=by omega
  have el:(i:Int)+1=((i+1:Nat):Int):=by omega
  obtain⟨p1,i1,c1⟩:=(kf.keep M.tch).idx (i:=i) (by omega)
  have i3:=idx_sl (b:=b9) (m:=s.length+1) (i:=i+1) (by omega)
  have hx:=idxS_nat hi
  have kn1:=kn.tch M.tch hp (by simp)
  have e4:ldRow H 4 (.ptr p (0+1))=some (wordsA w):=by
   have:=kn1.ld (o:=0+1) (n:=4) (by show 0+1+4≤(nodeC op w kv).length;simp only[nodeC,List.length_cons,List.length_append,wordsA_len,hw.len,List.length_nil];omega)
   rw[this]
   show some ((wordsA w++[kv]).take 4)=_
   rw[List.take_left' (by rw[wordsA_len,hw.len])]
  have eh:=has_w (n:=n) (d:=d) (h:=H) hw (byte_lt hi)
  have fin:=fun H M=>set_loop hw kn hp kf hl hk m fu (i+1) H (by omega) (by omega) M
  have es:=ends_set (f:=f) (w:=w) hi
  have step:∀{c:Bool} {h2:AHeap},(f i&&inW w (s[i]).toNat)=c→Abs.Mem [] h h2 [(b9,TBo,(bl (s.length+1) fun j=>if j≤i then endsB (fun u=>∃c,u=[c]∧inW w c=true) s f j else false).set (i+1) (.bool c))]→Abs.Mem [] h h2 [(b9,TBo,bl (s.length+1) fun j=>if j≤i+1 then endsB (fun u=>∃c,u=[c]∧inW w c=true) s f j else false)]:=by
   intro c h2 hc M2
   rw[bl_set (g:=fun j=>if j≤i+1 then endsB (fun u=>∃c,u=[c]∧inW w c=true) s f j else false) (by rw[if_pos (by omega),es,hc]) (fun j hj=>by
    by_cases h1:j≤i
    ·rw[if_pos h1,if_pos (by omega)]
    ·rw[if_neg h1,if_neg (by omega)])] at M2
   exact M2
  rw[ref10_Ends_L0_s]
  unfold ref10_Ends_L0b
  rw[←el] at i3
  cases hfi:f i with
  |true=>
   rw[hfi] at c1
   repeat(first|(with_reducible refine Wp.join0 (fun _ _=>?_))|((with_reducible refine Wp.lettw ?_ ?_ ?_);omega;omega)|(with_reducible first|refine Wp.lett ?_|(apply Wp.obind;first|exact i1|exact c1|exact e4|exact hx|exact i3|exact avBool_bool _|exact fldP_ptr _ _ _))|((with_reducible refine Wp.ift ?_ ?_);first|(with_reducible rfl)|((with_reducible apply decide_eq_true);omega))|(with_reducible apply Wp.callN;exact eh))
   refine Wp.ms0 M (by rw[bl_len];omega) rfl fun h2 M2=>?_
   repeat(first|((with_reducible refine Wp.lettw ?_ ?_ ?_);omega;omega)|(with_reducible refine Wp.go0 (by assumption) ?_))
   rw[el]
   exact fin h2 (step (by rw[hfi];rfl) M2)
  |false=>
   rw[hfi] at c1
   repeat(first|(with_reducible refine Wp.join0 (fun _ _=>?_))|((with_reducible refine Wp.lettw ?_ ?_ ?_);omega;omega)|(with_reducible first|refine Wp.lett ?_|(apply Wp.obind;first|exact i1|exact c1|exact i3|exact avBool_bool _))|((with_reducible refine Wp.ift ?_ ?_;apply decide_eq_true);omega)|(with_reducible refine Wp.iff ?_ ?_;rfl))
   refine Wp.ms0 M (by rw[bl_len];omega) rfl fun h2 M2=>?_
   repeat(first|((with_reducible refine Wp.lettw ?_ ?_ ?_);omega;omega)|(with_reducible refine Wp.go0 (by assumption) ?_))
   rw[el]
   exact fin h2 (step (by rw[hfi];rfl) M2)
theorem catE_loop{k58:AV→AHeap→R}(g1:GrowT TNode 6 K kv T)(r:RowsAt h T)(kn:RowH h p TNode (nodeC op w kv))(hp:p<h.next)(hw:WordsOk w)(hK:∀c∈K,c.length=6∧c.all AV.one=true)(hKn:K.length<1000000):
  ∀(l:List (List AV)) (ks:List Nd) (i fu:Nat) (v:AV) (f:Nat→Bool) (H:AHeap),KidE n d s h l ks→K.drop i=l→K.length - i<fu→Tch [] h H→Tr H v (s.length+1) f→
   (∀v' H',Tr H' v' (s.length+1) (endsB (LCat ks) s f)→Tch [] h H'→Wp (k58 v' H') Q)→Wp (ref10_Ends_L1 (worldR n d) s (.ptr p 0) k58 fu v (i:Int) H) Q
 |_,_,_,0,_,_,_,_,_,hf,_,_,_=>by omega
 | l, ks, i, fu + 1, v, f, H, kk, d1, hf, t, kv1, hk => by
  rw[ref10_Ends_L1_s]
  unfold ref10_Ends_L1b
  have c5:ldCell H (.ptr p (0+5))=some kv:=RowH.cell' (kn.tch t hp (by simp)) (by
   obtain⟨a,b,c,d,rfl⟩:=words4 hw
   rfl)
  have hlen:=g1.len
  cases kk with
  |nil=>
   have:=drop_nil d1
   repeat(first|(with_reducible first|refine Wp.lett ?_|(apply Wp.obind;first|exact c5|exact hlen|exact fldP_ptr _ _ _))|((with_reducible refine Wp.iff ?_ ?_;apply decide_eq_false);omega))
   exact hk v H (kv1.congr fun j hj=>(ends_nil (by omega)).symm) t
  |cons e k=>
   rename_i c t1 m ks
   obtain⟨hi1,hc,d2⟩:=drop_cons d1
   obtain⟨p1,_,x1,y1⟩:=(grow_sli g1 (r.keep t)).row hi1
   rw[hc] at y1
   obtain⟨v2,h2,e2,k2,t2⟩:=e f v H t kv1
   repeat(first|((with_reducible refine Wp.lettw ?_ ?_ ?_);omega;omega)|(with_reducible first|refine Wp.lett ?_|(apply Wp.obind;first|exact c5|exact hlen|exact x1|exact y1|exact fldP_ptr _ _ _))|((with_reducible refine Wp.ift ?_ ?_;apply decide_eq_true);omega)|(with_reducible apply Wp.callN;assumption))
   rw[show (i:Int)+1=((i+1:Nat):Int) by omega]
   refine catE_loop g1 r kn hp hw hK hKn m ks (i+1) fu v2 _ h2 k d2 (by omega) (t.trans t2) k2 fun v' H' kr tr=>hk v' H' (kr.congr fun j hj=>?_) tr
   rw[LCat,ends_cat (by omega)]
end
section
variable {n d p b9 op:Nat}{h h0:AHeap}{s:Bytes}{w:List Nat}{kv:AV}{K:List (List AV)}{T:List RowT}{f:Nat→Bool}{Q:ARes→AHeap→Prop}{v:AV}
theorem altE_loop{k86:AV→AHeap→R}(g1:GrowT TNode 6 K kv T)(r:RowsAt h T)(kn:RowH h p TNode (nodeC op w kv))(hp:p<h.next)(hw:WordsOk w)(hKn:K.length<1000000)(kf:Tr h v (s.length+1) f)(hl:s.length<900)(hn:1000<n)(hx:memB TBo h.ex=false):
  ∀(l:List (List AV)) (ks:List Nd) (i fu:Nat) (u:AV) (g:Nat→Bool) (H:AHeap),KidE n (d+1) s h l ks→K.drop i=l→K.length - i<fu→Tch [] h H→Tr H u (s.length+1) g→
   (∀v' H',Tr H' v' (s.length+1) (fun j=>g j||endsB (LAlt ks) s f j)→Tch [] h H'→Wp (k86 v' H') Q)→Wp (ref10_Ends_L2 (worldR n (d+1)) s v (.ptr p 0) k86 fu u (i:Int) H) Q
 |_,_,_,0,_,_,_,_,_,hf,_,_,_=>by omega
 | l, ks, i, fu + 1, u, g, H, kk, d1, hf, t, ku, hk => by
  rw[ref10_Ends_L2_s]
  unfold ref10_Ends_L2b
  have c5:ldCell H (.ptr p (0+5))=some kv:=RowH.cell' (kn.tch t hp (by simp)) (by
   obtain⟨a,b,c,d,rfl⟩:=words4 hw
   rfl)
  have hlen:=g1.len
  cases kk with
  |nil=>
   have:=drop_nil d1
   repeat(first|(with_reducible first|refine Wp.lett ?_|(apply Wp.obind;first|exact c5|exact hlen|exact fldP_ptr _ _ _))|((with_reducible refine Wp.iff ?_ ?_;apply decide_eq_false);omega))
   refine hk u H (ku.congr fun j hj=>?_) t
   rw[LAlt,ends_false,Bool.or_false]
  |cons e k=>
   rename_i c t1 m ks
   obtain⟨hi1,hc,d2⟩:=drop_cons d1
   obtain⟨p1,_,x1,y1⟩:=(grow_sli g1 (r.keep t)).row hi1
   rw[hc] at y1
   obtain⟨v2,h2,e2,k2,t2⟩:=e f v H t (kf.keep t)
   have tA:=t.trans t2
   obtain⟨v3,h3,e3,k3,t3⟩:=both_r (n:=n) (d:=d) (ku.keep t2) k2 (by omega) hn (by rw[tA.2.1];exact hx)
   repeat(first|((with_reducible refine Wp.lettw ?_ ?_ ?_);omega;omega)|(with_reducible first|refine Wp.lett ?_|(apply Wp.obind;first|exact c5|exact hlen|exact x1|exact y1|exact fldP_ptr _ _ _))|((with_reducible refine Wp.ift ?_ ?_;apply decide_eq_true);omega)|(with_reducible apply Wp.callN;assumption))
   rw[show (i:Int)+1=((i+1:Nat):Int) by omega]
   refine altE_loop g1 r kn hp hw hKn kf hl hn hx m ks (i+1) fu v3 _ h3 k d2 (by omega) (tA.trans t3) k3 fun v' H' kr tr=>hk v' H' (kr.congr fun j hj=>?_) tr
   rw[LAlt,ends_or,Bool.or_assoc]
end
mutual
theorem ends_ok:∀(t:Nd) {c:List AV} {T:List RowT} {D n:Nat} {s:Bytes} {h:AHeap},oneK t→NodeT t c T→RowsAt h T→2*t.sz+3≤D→t.sz+1000<n→t.sz<1000000→s.length<900→memB TBo h.ex=false→EndsW n D s h c (Lang t)
 | .mk op w ks,_,_,0,n,s,h,_,_,_,hD,_,_,_,_=>by omega
 | .mk op w ks, c, T, D + 1, n, s, h, ⟨on1, on2⟩, k1, r1, hD, hn, hz, hl, hx => by
  intro f v H tH kf
  rw[Nd.sz] at hD hn hz
  have hsl:=szL_len ks
  cases k1 with
  | mk hw g1 ks1 =>
   rename_i kc1 kv1 T01 T11
   have hl1:=ks1.len
   have hK:∀c∈kc1,c.length=6∧c.all AV.one=true:=g1.1
   obtain⟨d,rfl⟩:∃d,D=d+2:=⟨D - 2,by omega⟩
   have kk:=(endsL_ok ks (D:=d+2) (n:=n) (s:=s) on2 ks1 r1.right (by omega) (by omega) (by omega) hl hx).keep tH
   have rH:=r1.left.keep tH
   have hxH:memB TBo H.ex=false:=by rw[tH.2.1];exact hx
   suffices hK:Wp (worldR n (d+2+1) 31 [.agg (nodeC op w kv1),strA s,v] H) fun r h'=>∃v',r=.ret v'∧Tr h' v' (s.length+1) (endsB (Lang (.mk op w ks)) s f)∧Tch [] H h' by
    obtain⟨_,h',e,v',rfl,k⟩:=hK
    exact⟨v',h',e,k⟩
   rw[w_ref10_Ends]
   unfold ref10_Ends
   have o1:=nodeC_one (op:=op) (w:=w) g1.one.1
   have ll:=lenS_nat s
   have el:lenS s+1=((s.length+1:Nat):Int):=by omega
   have M:=Mem.nil [] H
   refine Wp.mbox M o1 fun h1 M1=>?_
   (((with_reducible refine Wp.lettw ?_ ?_ ?_);omega;omega))
   rw[el]
   have hxH1:memB TBo h1.ex=false:=by rw[M1.ex];exact hxH
   refine Wp.mnews (Mem.nil [] h1) (make_bools2 _ (by omega) h1) (bl_one _ _) hxH1 fun h2 M2=>?_
   have t2:=M1.tch.trans M2.tch
   have kn1:=M1.at0.1
   have hp1:=M1.at0.2.1
   have kn2:=kn1.tch M2.tch hp1 (by simp)
   have hp2:=Nat.lt_of_lt_of_le hp1 M2.tch.1
   have hx2:memB TBo h2.ex=false:=by rw[M2.ex];exact hxH1
   have c0:ldCell h2 (.ptr H.next (0+0))=some (.int .i64 (op:Int)):=RowH.cell' kn2 rfl
   have c5:∀{h3:AHeap},Tch [] h2 h3→ldCell h3 (.ptr H.next (0+5))=some kv1:=fun t=>RowH.cell' (kn2.tch t hp2 (by simp)) (by
    obtain⟨a,b,c,d,rfl⟩:=words4 hw
    rfl)
   have kf2:=kf.keep t2
   have rH2:=rH.keep t2
   rw[Lang]
   by_cases e2:op=2
   ·subst e2
    rw[if_pos rfl]
    repeat(first|(with_reducible first|(first|refine Wp.join0 (fun _ _=>?_)|refine Wp.join1 (fun _ _=>?_))|refine Wp.lett ?_|(apply Wp.obind;first|exact c0|exact avInt_int _ _|exact fldP_ptr _ _ _))|((with_reducible refine Wp.ift ?_ ?_;apply beq_t);omega))
    rename_i k21 ek21
    refine set_loop (d:=d+1) (h:=h1) hw kn1 hp1 (kf.keep M1.tch) hl (fun H' M'=>?_) s.length n 0 h2 (by omega) (Nat.zero_add _) (by
     rw[bl_ext (f:=fun j=>if j≤0 then endsB (fun u=>∃c,u=[c]∧inW w c=true) s f j else false) (g:=fun _=>false) (fun j=>by
      by_cases hj:j≤0
      ·rw [if_pos hj, show j = 0 by omega]
       exact ends_set0
      ·rw[if_neg hj])]
     exact M2)
    rw[ek21]
    repeat((with_reducible refine Wp.go1 (by assumption) ?_))
    exact Wp.ret ⟨_,rfl,⟨_,rfl,M'.at0.1,M'.at0.2.1⟩,M1.tch.trans M'.tch⟩
   rw[if_neg e2]
   by_cases e3:op=3
   ·subst e3
    rw[if_pos rfl]
    repeat(first|(with_reducible first|refine Wp.join1 (fun _ _=>?_)|refine Wp.lett ?_|(apply Wp.obind;first|exact c0|exact avInt_int _ _|exact fldP_ptr _ _ _))|((with_reducible refine Wp.ift ?_ ?_;apply beq_t);omega)|((with_reducible refine Wp.iff ?_ ?_;apply beq_f);omega))
    rename_i k58 ek58
    refine catE_loop (d:=d+2) (h:=h2) g1 rH2 kn2 hp2 hw hK (by omega) kc1 ks 0 n v f h2 (kk.keep t2) List.drop_zero (by omega) (Tch.refl _ _) kf2 fun v' H' kr tr=>?_
    rw[ek58]
    repeat((with_reducible refine Wp.go1 (by assumption) ?_))
    exact Wp.ret ⟨v',rfl,kr,t2.trans tr⟩
   rw[if_neg e3]
   by_cases e4:op=4
   ·subst e4
    rw[if_pos rfl]
    repeat(first|(with_reducible first|refine Wp.join1 (fun _ _=>?_)|refine Wp.lett ?_|(apply Wp.obind;first|exact c0|exact avInt_int _ _|exact fldP_ptr _ _ _))|((with_reducible refine Wp.ift ?_ ?_;apply beq_t);omega)|((with_reducible refine Wp.iff ?_ ?_;apply beq_f);omega))
    rename_i k86 ek86
    refine altE_loop (d:=d+1) (h:=h2) g1 rH2 kn2 hp2 hw (by omega) kf2 hl (by omega) hx2 kc1 ks 0 n _ (fun _=>false) h2 (kk.keep t2) List.drop_zero (by omega) (Tch.refl _ _) ⟨_,rfl,M2.at0.1,M2.at0.2.1⟩ fun v' H' kr tr=>?_
    rw[ek86]
    repeat((with_reducible refine Wp.go1 (by assumption) ?_))
    exact Wp.ret ⟨v',rfl,kr.congr fun j hj=>Bool.false_or _,t2.trans tr⟩
   rw[if_neg e4]
   by_cases e57:5≤op∧op≤7
   ·have hone := on1.2 e57.1
    have kq:=(endsL_ok ks (D:=d+1) (n:=n) (s:=s) on2 ks1 r1.right (by omega) (by omega) (by omega) hl hx).keep tH
    match ks,hone,kk,hl1,kq with
    | [t1], _, kk, hl1, kq =>
     match kc1,hl1,kk,g1,hK,kq with
     | [c1], _, .cons e _, g1, hK, .cons eq1 _ =>
      obtain⟨l6,o6⟩:=hK c1 List.mem_cons_self
      obtain⟨p1,_,x1,y1⟩:=(grow_sli g1 rH2).row (i:=0) (by simp)
      have x2:idxP 6 kv1 0=some (.ptr p1 (0*6)):=x1
      have y2:ldRow h2 6 (.ptr p1 (0*6))=some c1:=y1
      have d5:=c5 (Tch.refl _ _)
      have eL:LHead [t1]=Lang t1:=by rw[LHead]
      by_cases e7:op=7
      ·subst e7
       rw[if_neg (by decide),if_neg (by decide),if_pos rfl,eL]
       obtain⟨v3,h3,g3,k3,t3⟩:=e f v h2 t2 kf2
       have tA:=t2.trans t3
       obtain⟨v4,h4,g4,k4,t4⟩:=both_r (n:=n) (d:=d+1) (kf2.keep t3) k3 (by omega) (by omega) (by rw[t3.2.1];exact hx2)
       repeat(first|(with_reducible first|refine Wp.join1 (fun _ _=>?_)|refine Wp.lett ?_|(apply Wp.obind;first|exact c0|exact d5|exact x2|exact y2|exact avInt_int _ _|exact fldP_ptr _ _ _))|((with_reducible refine Wp.ift ?_ ?_;apply beq_t);omega)|((with_reducible refine Wp.iff ?_ ?_;apply beq_f);omega)|(with_reducible first|(apply Wp.callN;assumption)|refine Wp.go1 (by assumption) ?_))
       exact Wp.ret ⟨v4,rfl,k4.congr fun j hj=>by rw[ends_or,ends_nil (by omega)],tA.trans t4⟩
      by_cases e5:op=5
      ·subst e5
       rw[if_pos rfl,eL]
       obtain⟨v3,h3,g3,k3,t3⟩:=again_r (n:=n) (d:=d) (h:=h2) (f:=f) (v:=v) eq1 l6 o6 t2 hl (by omega) hxH kf2
       repeat(first|(with_reducible first|refine Wp.join1 (fun _ _=>?_)|refine Wp.lett ?_|(apply Wp.obind;first|exact c0|exact d5|exact x2|exact y2|exact avInt_int _ _|exact fldP_ptr _ _ _))|((with_reducible refine Wp.ift ?_ ?_;apply beq_t);omega)|((with_reducible refine Wp.iff ?_ ?_;apply beq_f);omega)|(with_reducible first|(apply Wp.callN;assumption)|refine Wp.go1 (by assumption) ?_))
       exact Wp.ret ⟨v3,rfl,k3,t2.trans t3⟩
      obtain rfl:op=6:=by omega
      rw[if_neg (by decide),if_pos rfl,eL]
      obtain⟨v3,h3,g3,k3,t3⟩:=e f v h2 t2 kf2
      have tA:=t2.trans t3
      obtain⟨v4,h4,g4,k4,t4⟩:=again_r (n:=n) (d:=d) (h:=h3) (f:=endsB (Lang t1) s f) (v:=v3) eq1 l6 o6 tA hl (by omega) hxH k3
      obtain⟨p2,_,x3,y3⟩:=(grow_sli g1 (rH2.keep t3)).row (i:=0) (by simp)
      have x4:idxP 6 kv1 0=some (.ptr p2 (0*6)):=x3
      have ep:p2=p1:=by
       rw[x2] at x4
       simpa using x4.symm
      subst ep
      have y4:ldRow h3 6 (.ptr p2 (0*6))=some c1:=y3
      repeat(first|(with_reducible first|refine Wp.join1 (fun _ _=>?_)|refine Wp.lett ?_|(apply Wp.obind;first|exact c0|exact d5|exact x2|exact y2|exact avInt_int _ _|exact fldP_ptr _ _ _))|((with_reducible refine Wp.ift ?_ ?_;apply beq_t);omega)|((with_reducible refine Wp.iff ?_ ?_;apply beq_f);omega)|(with_reducible apply Wp.callN;assumption))
      refine Wp.chk (and_t rfl (and_t rfl (and_t (reLoad_r (by kernel_rfl) (by kernel_rfl) y4) (and_t (reLoad_c (by kernel_rfl) (c5 t3)) rfl)))) ?_
      refine Wp.callN g4 ?_
      repeat((with_reducible refine Wp.go1 (by assumption) ?_))
      exact Wp.ret ⟨v4,rfl,k4.congr fun j hj=>(ends_plus.resolve_right (by omega)).symm,tA.trans t4⟩
   ·rw [if_neg (by omega), if_neg (by omega), if_neg (by omega)]
    repeat(first|(with_reducible first|refine Wp.join1 (fun _ _=>?_)|refine Wp.lett ?_|(apply Wp.obind;first|exact c0|exact avInt_int _ _|exact fldP_ptr _ _ _))|((with_reducible refine Wp.iff ?_ ?_;apply beq_f);omega)|(with_reducible refine Wp.go1 (by assumption) ?_))
    exact Wp.ret ⟨v,rfl,kf2.congr fun j hj=>(ends_nil (by omega)).symm,t2⟩
theorem endsL_ok:∀(ks:List Nd) {k1:List (List AV)} {T:List RowT} {D n:Nat} {s:Bytes} {h:AHeap},oneL ks→KidsT ks k1 T→RowsAt h T→2*szL ks+3≤D→szL ks+1000<n→szL ks<1000000→s.length<900→memB TBo h.ex=false→KidE n D s h k1 ks
 |[],_,_,_,_,_,_,_,k1,_,_,_,_,_,_=>by
  cases k1
  exact .nil
 |t::ks,_,_,D,n,s,h,⟨p1,p2⟩,k1,r1,hD,hn,hN,hl,hx=>by
  rw[szL] at hD hn hN
  cases k1 with
  |cons a1 b1=>exact .cons (ends_ok t p1 a1 r1.left (by omega) (by omega) (by omega) hl hx) (endsL_ok ks p2 b1 r1.right (by omega) (by omega) (by omega) hl hx)
end
theorem inW_others{w:List Nat}(hw:WordsOk w){i:Nat}(hi:i<256):inW (othersW w) i= !inW w i:=by
 unfold inW othersW
 have hl:=hw.len
 have h4:i/64<w.length:=by omega
 rw[List.getD_eq_getElem?_getD,List.getElem?_map,List.getD_eq_getElem?_getD,List.getElem?_eq_getElem h4,Option.map_some,Option.getD_some,Option.getD_some,Nat.testBit_xor]
 have:Nat.testBit 18446744073709551615 (i%64)=true:=by
  have:=Nat.testBit_two_pow_sub_one 64 (i%64)
  rw[decide_eq_true (Nat.mod_lt _ (by decide))] at this
  exact this
 rw[this,Bool.xor_true]
theorem inW_ext{v w:List Nat}(hv:WordsOk v)(hw:WordsOk w)(h:∀i,i<256→inW v i=inW w i):v=w:=by
 have l1:=hv.len
 have l2:=hw.len
 refine List.ext_getElem (by omega) fun k h1 h2=>Nat.eq_of_testBit_eq fun j=>?_
 by_cases hj:j<64
 ·have := h (k * 64 + j) (by omega)
  unfold inW at this
  rw[show (k*64+j)/64=k by omega,show (k*64+j)%64=j by omega,List.getD_eq_getElem?_getD,List.getD_eq_getElem?_getD,List.getElem?_eq_getElem h1,List.getElem?_eq_getElem h2] at this
  exact this
 ·have p : 18446744073709551616 ≤ 2 ^ j := by
   have:=Nat.pow_le_pow_right (n:=2) (by decide) (show 64≤j by omega)
   omega
  rw[Nat.testBit_lt_two_pow (Nat.lt_of_lt_of_le (hv.small _ (List.getElem_mem h1)) p),Nat.testBit_lt_two_pow (Nat.lt_of_lt_of_le (hw.small _ (List.getElem_mem h2)) p)]
noncomputable def boolsA(w:List Nat):List AV:=(List.range 256).map fun i=>AV.bool (inW w i)
theorem boolsA_len(w:List Nat):(boolsA w).length=256:=by simp[boolsA]
theorem boolsA_get(w:List Nat){i:Nat}(hi:i<256):(boolsA w)[i]? =some (.bool (inW w i)):=by
 unfold boolsA
 rw[List.getElem?_map,List.getElem?_range hi]
 rfl
theorem boolsA_set{w:List Nat}(hw:WordsOk w){c:Nat}(hc:c<256):(boolsA w).set c (.bool true)=boolsA (addW w c):=by
 refine List.ext_getElem? fun i=>?_
 by_cases hi:i<256
 ·rw [boolsA_get _ hi, inW_add hw hc]
  by_cases h:c=i
  ·subst h
   rw[List.getElem?_set_self (by rw[boolsA_len];exact hi),decide_eq_true rfl,Bool.or_true]
  ·rw[List.getElem?_set_ne h,boolsA_get _ hi,decide_eq_false (Ne.symm h),Bool.or_false]
 ·rw[List.getElem?_eq_none (by rw[List.length_set,boolsA_len];omega),List.getElem?_eq_none (by rw[boolsA_len];omega)]
theorem bools0:boolsA zeroW=[.bool false,.bool false,.bool false,.bool false,.bool false,.bool false,.bool false,.bool false,.bool false,.bool false,.bool false,.bool false,.bool false,.bool false,.bool false,.bool false,.bool false,.bool false,.bool false,.bool false,.bool false,.bool false,.bool false,.bool false,.bool false,.bool false,.bool false,.bool false,.bool false,.bool false,.bool false,.bool false,.bool false,.bool false,.bool false,.bool false,.bool false,.bool false,.bool false,.bool false,.bool false,.bool false,.bool false,.bool false,.bool false,.bool false,.bool false,.bool false,.bool false,.bool false,.bool false,.bool false,.bool false,.bool false,.bool false,.bool false,.bool false,.bool false,.bool false,.bool false,.bool false,.bool false,.bool false,.bool false,.bool false,.bool false,.bool false,.bool false,.bool false,.bool false,.bool false,.bool false,.bool false,.bool false,.bool false,.bool false,.bool false,.bool false,.bool false,.bool false,.bool false,.bool false,.bool false,.bool false,.bool false,.bool false,.bool false,.bool false,.bool false,.bool false,.bool false,.bool false,.bool false,.bool false,.bool false,.bool false,.bool false,.bool false,.bool false,.bool false,.bool false,.bool false,.bool false,.bool false,.bool false,.bool false,.bool false,.bool false,.bool false,.bool false,.bool false,.bool false,.bool false,.bool false,.bool false,.bool false,.bool false,.bool false,.bool false,.bool false,.bool false,.bool false,.bool false,.bool false,.bool false,.bool false,.bool false,.bool false,.bool false,.bool false,.bool false,.bool false,.bool false,.bool false,.bool false,.bool false,.bool false,.bool false,.bool false,.bool false,.bool false,.bool false,.bool false,.bool false,.bool false,.bool false,.bool false,.bool false,.bool false,.bool false,.bool false,.bool false,.bool false,.bool false,.bool false,.bool false,.bool false,.bool false,.bool false,.bool false,.bool false,.bool false,.bool false,.bool false,.bool false,.bool false,.bool false,.bool false,.bool false,.bool false,.bool false,.bool false,.bool false,.bool false,.bool false,.bool false,.bool false,.bool false,.bool false,.bool false,.bool false,.bool false,.bool false,.bool false,.bool false,.bool false,.bool false,.bool false,.bool false,.bool false,.bool false,.bool false,.bool false,.bool false,.bool false,.bool false,.bool false,.bool false,.bool false,.bool false,.bool false,.bool false,.bool false,.bool false,.bool false,.bool false,.bool false,.bool false,.bool false,.bool false,.bool false,.bool false,.bool false,.bool false,.bool false,.bool false,.bool false,.bool false,.bool false,.bool false,.bool false,.bool false,.bool false,.bool false,.bool false,.bool false,.bool false,.bool false,.bool false,.bool false,.bool false,.bool false,.bool false,.bool false,.bool false,.bool false,.bool false,.bool false,.bool false,.bool false,.bool false,.bool false,.bool false,.bool false,.bool false,.bool false,.bool false,.bool false,.bool false,.bool false,.bool false,.bool false,.bool false,.bool false,.bool false,.bool false]:=by kernel_rfl
theorem quoU8_64{c:Nat}(h:c<256):quoI .u8 (c:Int) 64=some ((c/64:Nat):Int):=by
 unfold quoI
 rw[if_neg (by decide),Int.tdiv_eq_ediv_of_nonneg (by omega),wrap_u8_mod]
 congr 1
 omega
theorem remU8_64{c:Nat}:remI .u8 (c:Int) 64=some ((c%64:Nat):Int):=by
 unfold remI
 rw[if_neg (by decide),Int.tmod_eq_emod_of_nonneg (by omega)]
 congr 1
section
variable {n d b p q i:Nat}{h h0:AHeap}{u:Bytes}{Q:ARes→AHeap→Prop}{S:List Nat}{xs T T0 T1:List RowT}{kc:List (List AV)}{kv:AV}{l:List Nd}{w:List Nat}
theorem addW_zero{c:Nat}:zeroW.set (c/64) (2 ^ (c%64))=spanW zeroW c 1:=by
 show _=addW zeroW c
 unfold addW
 have:zeroW.getD (c/64) 0=0:=by
  unfold zeroW
  rw[List.getD_eq_getElem?_getD]
  match c/64 with
  |0=>rfl
  |1=>rfl
  |2=>rfl
  |3=>rfl
  |_+4=>rfl
 rw[this,Nat.zero_or]
theorem One_w{c:Nat}(hc:c<256):worldR n (d+1) 43 [.int .u8 (c:Int)] h=some (.ret (.agg (nodeC 2 (spanW zeroW c 1) .nsl)),h):=by
 apply Wp.eq
 rw[w_ref09_One]
 refine Wp.gc ?_
 suffices hK:Wp (ref09_One (worldR n d) n c h) fun r h'=>r=.ret (.agg (nodeC 2 (spanW zeroW c 1) .nsl))∧Tch [] h h' from hK.mono fun r h' ⟨e,t⟩=>⟨t.above,by rw[e];exact nodeC_scal _ _,e,rfl⟩
 unfold ref09_One
 have Mx:=Mem.nil [] h
 have hi:c/64<4:=by omega
 have e1:=quoU8_64 hc
 have e2:∀b,idxA 4 1 (.ptr b 1) ((c/64:Nat):Int)=some (.ptr b (1+c/64)):=fun b=>idxA_ptr hi
 have e3:=remU8_64 (c:=c)
 have e4:=shlI_one (k:=c%64) (Nat.mod_lt _ (by decide))
 repeat(first|((with_reducible apply Wp.sa0 Mx);rfl;rfl;(rfl);clear Mx;intro _ Mx)|((with_reducible apply Wp.mnew Mx);clear Mx;intro _ Mx)|(with_reducible apply Wp.obind;first|exact e1|exact e2 _|exact e3|exact e4)|rw[newP_eq])
 have k0:RowH _ _ _ ([AV.int .i64 2]++(wordsA zeroW++[AV.nsl])):=Mx.at0.1
 refine Wp.st1 k0 (by simp[wordsA_len];unfold zeroW;simp;omega) rfl fun h5 k5 t5 _=>?_
 have hs:([AV.int .i64 2]++(wordsA zeroW++[AV.nsl])).set (1+c/64) (.int .u64 ((2 ^ (c%64):Nat):Int))=nodeC 2 (spanW zeroW c 1) AV.nsl:=by
  have:=set_words (pre:=[AV.int .i64 2]) (post:=[.nsl]) (w:=zeroW) (i:=c/64) (x:=2 ^ (c%64)) hi
  rw[addW_zero] at this
  exact this
 rw[hs] at k5
 have Mz:=Mem.upd (xs:=[]) Mx t5 k5
 clear Mx
 have Mx:=Mz
 clear Mz k0 k5
 have ho:=nodeC_one (kv:=.nsl) (op:=2) (w:=spanW zeroW c 1) rfl
 have hl:(nodeC 2 (spanW zeroW c 1) .nsl).length=6:=nodeC_len (op:=2) (spanW_ok 1 zeroW_ok c)
 refine Wp.lr0 Mx hl ?_
 refine Wp.sa1 Mx hl rfl ho fun h6 Mz=>?_
 refine Wp.lr1 Mz hl ?_
 exact Wp.ret ⟨rfl,Mz.tch⟩
theorem All_loop{hp0:AHeap}{pre post:List AV}{k12:AHeap→R}(hpre:pre.length=1)(eq:hp0.next=b){e:TypeId}:∀(m f lo:Nat) (w:List Nat) (H:AHeap),m<f→lo+m=256→WordsOk w→RowH H b e (pre++(wordsA w++post))→
   (∀H',RowH H' b e (pre++(wordsA (spanW w lo m)++post))→Tch [b] H H'→Wp (k12 H') Q)→Wp (ref09_All_L0 hp0 k12 f (lo:Int) H) Q
 |_,0,_,_,_,hf,_,_,_,_=>by omega
 |0,f+1,lo,w,H,hf,hm,hw,k,hk=>by
  rw[ref09_All_L0_s]
  unfold ref09_All_L0b
  repeat(first|(with_reducible refine Wp.lett ?_)|((with_reducible refine Wp.iff ?_ ?_;apply decide_eq_false);omega))
  exact hk H k (Tch.refl _ _)
 |m+1,f+1,lo,w,H,hf,hm,hw,k,hk=>by
  rw[ref09_All_L0_s]
  unfold ref09_All_L0b
  have hi:lo/64<4:=by omega
  have hl:lo/64<w.length:=by rw[hw.len];exact hi
  have hc:=get_words (pre:=pre) (post:=post) hl
  have e1:=quoI_64 (c:=lo) (by omega)
  have e2:idxA 4 1 (.ptr hp0.next 1) ((lo/64:Nat):Int)=some (.ptr b (1+lo/64)):=by rw[eq];exact idxA_ptr hi
  have e3:=remI_64 (c:=lo)
  have e4:=shlI_one (k:=lo%64) (Nat.mod_lt _ (by decide))
  rw[hpre] at hc
  have e5:=RowH.cell' k hc
  repeat(first|(with_reducible first|refine Wp.lett ?_|(apply Wp.obind;first|exact e1|exact e2|exact e3|exact e4|exact e5|exact avInt_int _ _))|((with_reducible refine Wp.ift ?_ ?_;apply decide_eq_true);omega))
  rw[orI_nat (hw.get _) (pow_small (Nat.mod_lt _ (by decide)))]
  refine Wp.st1 k (by simp[wordsA_len];omega) rfl fun h' k' t' _=>?_
  rw[←hpre,set_words hl] at k'
  repeat(((with_reducible refine Wp.lettw ?_ ?_ ?_);omega;omega))
  have el:(lo:Int)+1=((lo+1:Nat):Int):=by omega
  rw[el]
  exact All_loop hpre eq m f (lo+1) (addW w lo) h' (by omega) (by omega) (addW_ok hw lo) k' fun H' k2 t2=>hk H' k2 (t'.trans t2)
theorem All_w(hn:300<n):worldR n (d+1) 45 [] h=some (.ret (.agg (nodeC 2 anyW .nsl)),h):=by
 apply Wp.eq
 rw[w_ref09_All]
 refine Wp.gc ?_
 suffices hK:Wp (ref09_All (worldR n d) n h) fun r h'=>r=.ret (.agg (nodeC 2 anyW .nsl))∧Tch [] h h' from hK.mono fun r h' ⟨e,t⟩=>⟨t.above,by rw[e];exact nodeC_scal _ _,e,rfl⟩
 unfold ref09_All
 have Mx:=Mem.nil [] h
 repeat(first|((with_reducible apply Wp.sa0 Mx);rfl;rfl;(rfl);clear Mx;intro _ Mx)|((with_reducible apply Wp.mnew Mx);clear Mx;intro _ Mx)|(with_reducible refine Wp.join0 (fun _ _=>?_))|rw[newP_eq])
 rename_i k12 ek12
 have k0:RowH _ _ _ ([AV.int .i64 2]++(wordsA zeroW++[AV.nsl])):=Mx.at0.1
 refine All_loop (lo:=0) rfl rfl 256 n _ _ (by omega) rfl zeroW_ok k0 fun h5 k5 t5=>?_
 refine Wp.go0 ek12 ?_
 have Mz:=Mem.upd (xs:=[]) Mx t5 k5
 clear Mx
 have Mx:=Mz
 clear Mz k0 k5
 have:spanW zeroW 0 256=anyW:=anyW_eq
 rw[this] at Mx
 have ho:=nodeC_one (kv:=.nsl) (op:=2) (w:=anyW) rfl
 have hl:([AV.int .i64 2]++(wordsA (anyW)++[AV.nsl])).length=6:=nodeC_len (op:=2) anyW_ok
 refine Wp.lr0 Mx hl ?_
 refine Wp.sa1 Mx hl rfl ho fun h6 Mz=>?_
 refine Wp.lr1 Mz hl ?_
 exact Wp.ret ⟨rfl,Mz.tch⟩
theorem Over_r(op:Nat)(Mx:Mem S h0 h (xs++(T0++T1)))(g:GrowT TNode 6 kc kv T0)(k:KidsT l kc T1):∃c T h',worldR n (d+1) 44 [.int .i64 (op:Int),kv] h=some (.ret (.agg c),h')∧NodeT (joinN op l) c T∧Mem S h0 h' (xs++T):=by
 have hkl:=k.len
 match l,k,hkl with
 | [], k, hkl =>
  cases k
  rcases g.2 with⟨_,rfl,rfl⟩|⟨hh,_⟩
  ·refine ⟨nodeC 1 zeroW .nsl, [], ?_⟩
   suffices hK:∃h',worldR n (d+1) 44 [.int .i64 (op:Int),.nsl] h=some (.ret (.agg (nodeC 1 zeroW .nsl)),h')∧Mem S h0 h' (xs++([]++[])) by
    obtain⟨h',e,M'⟩:=hK
    exact⟨h',e,NodeT.leaf 1 zeroW_ok,M'⟩
   apply Wp.ex
   rw[w_ref09_Over]
   unfold ref09_Over
   have hlen:lenL .nsl=some 0:=rfl
   repeat(first|((with_reducible apply Wp.lr0 Mx);rfl)|((with_reducible apply Wp.sa0 Mx);rfl;rfl;(rfl);clear Mx;intro _ Mx)|((with_reducible apply Wp.mnew Mx);clear Mx;intro _ Mx)|(with_reducible first|refine Wp.lett ?_|(apply Wp.obind;exact hlen))|((with_reducible refine Wp.ift ?_ ?_;apply beq_t);omega)|rw[newP_eq])
   exact Wp.ret ⟨rfl,Mx.pop⟩
  ·exact absurd rfl hh
 | [t], k, hkl =>
  obtain⟨c,rfl,kt⟩:=k.one
  obtain⟨q,rfl,rfl⟩:=grow_single g
  refine⟨c,T1,?_⟩
  suffices hK:∃h',worldR n (d+1) 44 [.int .i64 (op:Int),.sl q 0 1 6] h=some (.ret (.agg c),h')∧Mem S h0 h' (xs++([(q,TNode,c)]++T1)) by
   obtain⟨h',e,M'⟩:=hK
   exact⟨h',e,kt,mem_mid M'⟩
  apply Wp.ex
  rw[w_ref09_Over]
  unfold ref09_Over
  have hlen:lenL (.sl q 0 1 6)=some 1:=rfl
  have ei:idxP 6 (.sl q 0 1 6) 0=some (.ptr q 0):=idx0 q 0
  repeat(first|((with_reducible apply Wp.mnew Mx);clear Mx;intro _ Mx)|(with_reducible first|refine Wp.lett ?_|(apply Wp.obind;first|exact hlen|exact ei))|((with_reducible refine Wp.ift ?_ ?_;apply beq_t);omega)|((with_reducible refine Wp.iff ?_ ?_;apply beq_f);omega)|rw[newP_eq])
  refine Wp.obind (RowH.ldAll (Mem.at (xs:=_::xs) Mx).1 kt.len) ?_
  refine Wp.sa0 Mx kt.len rfl kt.one fun h6 Mz=>?_
  refine Wp.lr0 Mz kt.len ?_
  exact Wp.ret ⟨rfl,Mz.pop⟩
 | t :: t' :: ts, k, hkl =>
  refine⟨nodeC op zeroW kv,T0++T1,?_⟩
  suffices hK:∃h',worldR n (d+1) 44 [.int .i64 (op:Int),kv] h=some (.ret (.agg (nodeC op zeroW kv)),h')∧Mem S h0 h' (xs++(T0++T1)) by
   obtain⟨h',e,M'⟩:=hK
   exact⟨h',e,NodeT.mk zeroW_ok g k,M'⟩
  apply Wp.ex
  rw[w_ref09_Over]
  unfold ref09_Over
  have hlen:=g.len
  simp only[List.length_cons] at hkl
  have hl:=nodeC_len (kv:=kv) (op:=op) zeroW_ok
  have ho:=nodeC_one (op:=op) (w:=zeroW) g.one.1
  have hb:=overBld g op
  repeat(first|((with_reducible apply Wp.lr0 Mx);rfl)|((with_reducible apply Wp.sa0 Mx);rfl;rfl;((with_reducible assumption));clear Mx;intro _ Mx)|((with_reducible apply Wp.mnew Mx);clear Mx;intro _ Mx)|(with_reducible first|refine Wp.lett ?_|(apply Wp.obind;first|exact hlen|exact hb))|((with_reducible refine Wp.iff ?_ ?_;apply beq_f);omega)|rw[newP_eq])
  exact Wp.ret ⟨rfl,Mx.pop⟩
def mem3:Except Nat (Nat×Nat)→AV
 | .ok (c,j)=>.tup [.int .u8 (c:Int),.int .i64 (j:Int),.bool true]
 | .error q=>.tup [.int .u8 0,.int .i64 (q:Int),.bool false]
theorem member_w(hi:i≤u.length)(hu:u.length≤1000000):worldR n (d+1) 72 [strA u,.int .i64 (i:Int)] h=some (.ret (mem3 (memB2 u i)),h):=by
 apply Wp.eq
 rw[w_ref09_member]
 have hsc:∀x,(mem3 x).scal=true:=fun x=>by cases x<;>rfl
 suffices hK:Wp (ref09_member (worldR n d) n u i h) fun r h'=>r=.ret (mem3 (memB2 u i))∧h'=h from Wp.gc (hK.mono fun r h' ⟨e,e2⟩=>⟨by rw[e2];exact Above.refl _,by rw[e];exact hsc _,e,rfl⟩)
 unfold ref09_member memB2
 have ll:=lenS_nat u
 rcases Nat.lt_or_ge i u.length with hlt|hge
 ·rw [at?_lt hlt]
  have hx:=idxS_nat (l:=u) hlt
  generalize hc:(u[i]).toNat=c at hx
  dsimp only
  by_cases h92:c=92
  ·rw [if_pos h92]
   rcases Nat.lt_or_ge (i+1) u.length with hlt1|hge1
   ·rw [at?_lt hlt1]
    have hx1:=idxS_nat (l:=u) hlt1
    rw[show ((i+1:Nat):Int)=(i:Int)+1 by omega] at hx1
    repeat(first|(with_reducible refine Wp.join1 (fun _ _=>?_))|((with_reducible refine Wp.lettw ?_ ?_ ?_);omega;omega)|(with_reducible first|refine Wp.lett ?_|(apply Wp.obind;first|exact hx|exact hx1))|((with_reducible refine Wp.iff ?_ ?_);((with_reducible first|apply bne_f|apply beq_f);omega))|(with_reducible refine Wp.go1 (by assumption) ?_))
    exact Wp.ret ⟨by simp[mem3],rfl⟩
   ·rw [at?_ge hge1]
    repeat(first|(with_reducible refine Wp.join1 (fun _ _=>?_))|((with_reducible refine Wp.lettw ?_ ?_ ?_);omega;omega)|(with_reducible first|refine Wp.lett ?_|(apply Wp.obind;exact hx))|((with_reducible refine Wp.ift ?_ ?_);((with_reducible first|apply bne_t|apply beq_t);omega))|((with_reducible refine Wp.iff ?_ ?_);((with_reducible first|apply bne_f|apply beq_f);omega))|(with_reducible refine Wp.go1 (by assumption) ?_))
    exact Wp.ret ⟨by simp[mem3],rfl⟩
  ·rw [if_neg h92]
   by_cases h1:c=91
   ·rw [if_pos (.inl h1)]
    repeat(first|(with_reducible first|refine Wp.join1 (fun _ _=>?_)|refine Wp.lett ?_|(apply Wp.obind;exact hx))|((with_reducible refine Wp.ift ?_ ?_);first|(with_reducible rfl)|((with_reducible apply beq_t);omega))|((with_reducible refine Wp.iff ?_ ?_;apply beq_f);omega)|(with_reducible refine Wp.go1 (by assumption) ?_))
    exact Wp.ret ⟨by simp[mem3],rfl⟩
   by_cases h2:c=93
   ·rw [if_pos (.inr (.inl h2))]
    repeat(first|(with_reducible first|refine Wp.join1 (fun _ _=>?_)|refine Wp.lett ?_|(apply Wp.obind;exact hx))|((with_reducible refine Wp.ift ?_ ?_);first|(with_reducible rfl)|((with_reducible apply beq_t);omega))|((with_reducible refine Wp.iff ?_ ?_;apply beq_f);omega)|(with_reducible refine Wp.go1 (by assumption) ?_))
    exact Wp.ret ⟨by simp[mem3],rfl⟩
   by_cases h3:c=94
   ·rw [if_pos (.inr (.inr (.inl h3)))]
    repeat(first|(with_reducible first|refine Wp.join1 (fun _ _=>?_)|refine Wp.lett ?_|(apply Wp.obind;exact hx))|((with_reducible refine Wp.ift ?_ ?_);first|(with_reducible rfl)|((with_reducible apply beq_t);omega))|((with_reducible refine Wp.iff ?_ ?_;apply beq_f);omega)|(with_reducible refine Wp.go1 (by assumption) ?_))
    exact Wp.ret ⟨by simp[mem3],rfl⟩
   by_cases h4:c=45
   ·rw [if_pos (.inr (.inr (.inr h4)))]
    repeat(first|(with_reducible first|refine Wp.join1 (fun _ _=>?_)|refine Wp.lett ?_|(apply Wp.obind;exact hx))|((with_reducible refine Wp.ift ?_ ?_;apply beq_t);omega)|((with_reducible refine Wp.iff ?_ ?_;apply beq_f);omega)|(with_reducible refine Wp.go1 (by assumption) ?_))
    exact Wp.ret ⟨by simp[mem3],rfl⟩
   ·rw [if_neg (by omega)]
    repeat(first|(with_reducible refine Wp.join1 (fun _ _=>?_))|((with_reducible refine Wp.lettw ?_ ?_ ?_);omega;omega)|(with_reducible first|refine Wp.lett ?_|(apply Wp.obind;exact hx))|((with_reducible refine Wp.ift ?_ ?_);((with_reducible first|apply bne_t|apply beq_t);omega))|((with_reducible refine Wp.iff ?_ ?_;apply beq_f);omega)|(with_reducible refine Wp.go1 (by assumption) ?_))
    exact Wp.ret ⟨by simp[mem3],rfl⟩
 ·rw [at?_ge hge]
  repeat(first|(with_reducible first|refine Wp.join1 (fun _ _=>?_)|refine Wp.lett ?_)|((with_reducible refine Wp.ift ?_ ?_);first|(with_reducible rfl)|((with_reducible apply beq_t);omega))|(with_reducible refine Wp.go1 (by assumption) ?_))
  exact Wp.ret ⟨by simp[mem3],rfl⟩
end
abbrev TBools:Nat:=103
noncomputable def set3:Except Nat (List Nat×Nat)→AV
 | .ok (w,j)=>.tup [.agg (nodeC 2 w .nsl),.int .i64 (j:Int),.bool true]
 | .error q=>.tup [.agg (nodeC 0 zeroW .nsl),.int .i64 (q:Int),.bool false]
section
variable {n d i j:Nat}{h H h0 hb hx:AHeap}{u:Bytes}{Q:ARes→AHeap→Prop}{S:List Nat}{ys:List RowT}{w:List Nat}{k25:Int→AHeap→R}
theorem bool_loop{k108:AHeap→R}:∀(m f lo:Nat) (w:List Nat) (H:AHeap),m<f→lo+m≤256→WordsOk w→Mem [] h H ((hb.next,TBools,boolsA w)::ys)→
   (∀H',Mem [] h H' ((hb.next,TBools,boolsA (spanW w lo m))::ys)→Wp (k108 H') Q)→Wp (ref09_class_L2 hb ((lo+m:Nat) - 1:Int) k108 f (lo:Int) H) Q
 |_,0,_,_,_,hf,_,_,_,_=>by omega
 |0,f+1,lo,w,H,hf,hm,hw,M,hk=>by
  rw[ref09_class_L2_s]
  unfold ref09_class_L2b
  repeat(first|((with_reducible refine Wp.lettw ?_ ?_ ?_);omega;omega)|(with_reducible refine Wp.lett ?_)|((with_reducible refine Wp.iff ?_ ?_;apply decide_eq_false);omega))
  exact hk H M
 | m + 1, f + 1, lo, w, H, hf, hm, hw, M, hk => by
  rw[ref09_class_L2_s]
  unfold ref09_class_L2b
  have hl:lo<256:=by omega
  have e2:idxA 256 1 (.ptr hb.next 0) ((lo:Nat):Int)=some (.ptr hb.next lo):=by
   have:=idxA_ptr (b:=hb.next) (o:=0) hl
   rw[Nat.zero_add] at this
   exact this
  repeat(first|((with_reducible refine Wp.lettw ?_ ?_ ?_);omega;omega)|(with_reducible first|refine Wp.lett ?_|(apply Wp.obind;exact e2))|((with_reducible refine Wp.ift ?_ ?_;apply decide_eq_true);omega)|rw[newP_eq])
  refine Wp.ms0 M (by rw[boolsA_len];exact hl) rfl fun h' M'=>?_
  rw[boolsA_set hw hl] at M'
  repeat(((with_reducible refine Wp.lettw ?_ ?_ ?_);omega;omega))
  have eh:((lo+(m+1):Nat) - 1:Int)=((lo+1+m:Nat) - 1:Int):=by omega
  have el:(lo:Int)+1=((lo+1:Nat):Int):=by omega
  rw[eh,el]
  exact bool_loop m f (lo+1) (addW w lo) h' (by omega) (by omega) (addW_ok hw lo) M' hk
theorem pick_loop{nt:Bool}{k31:AHeap→R}(hw:WordsOk w):∀(m f k:Nat) (v:List Nat) (H:AHeap),m<f→k+m=256→WordsOk v→(∀i,i<256→inW v i=(decide (i<k)&& !(inW w i == nt)))→Mem [] h H ((hb.next,TBools,boolsA w)::(hx.next,TNode,nodeC 2 v .nsl)::ys)→
   (∀H' v',WordsOk v'→(∀i,i<256→inW v' i= !(inW w i == nt))→Mem [] h H' ((hb.next,TBools,boolsA w)::(hx.next,TNode,nodeC 2 v' .nsl)::ys)→Wp (k31 H') Q)→Wp (ref09_class_L0 hx nt hb k31 f (k:Int) H) Q
 |_,0,_,_,_,hf,_,_,_,_,_=>by omega
 |0,f+1,k,v,H,hf,hm,hv,hb,M,hk=>by
  rw[ref09_class_L0_s]
  unfold ref09_class_L0b
  repeat(first|(with_reducible refine Wp.lett ?_)|((with_reducible refine Wp.iff ?_ ?_;apply decide_eq_false);omega))
  refine hk H v hv (fun i hi=>?_) M
  rw[hb i hi,decide_eq_true (by omega),Bool.true_and]
 | m + 1, f + 1, k, v, H, hf, hm, hv, hbit, M, hk => by
  rw[ref09_class_L0_s]
  unfold ref09_class_L0b
  have hl:k<256:=by omega
  have e2:idxA 256 1 (.ptr hb.next 0) ((k:Nat):Int)=some (.ptr hb.next k):=by
   have:=idxA_ptr (b:=hb.next) (o:=0) hl
   rw[Nat.zero_add] at this
   exact this
  have el:(k:Int)+1=((k+1:Nat):Int):=by omega
  repeat(first|(with_reducible first|refine Wp.lett ?_|(apply Wp.obind;exact e2))|((with_reducible refine Wp.ift ?_ ?_;apply decide_eq_true);omega)|rw[newP_eq])
  refine Wp.ld0 M (boolsA_get w hl) ?_
  by_cases hb2:(inW w k == nt)=true
  ·have hb3 : (!(inW w k == nt)) = false := by rw [hb2]; rfl
   repeat(first|(with_reducible refine Wp.join0 (fun _ _=>?_))|((with_reducible refine Wp.lettw ?_ ?_ ?_);omega;omega)|(with_reducible first|refine Wp.lett ?_|(apply Wp.obind;exact avBool_bool _)|(refine Wp.iff ?_ ?_;assumption)|refine Wp.go0 (by assumption) ?_))
   rw[el]
   refine pick_loop hw m f (k+1) v H (by omega) (by omega) hv (fun i hi=>?_) M hk
   rw[hbit i hi]
   by_cases h2:i=k
   ·subst h2
    rw[hb3,Bool.and_false,Bool.and_false]
   ·rw[decide_eq_decide.2 (show i<k↔i<k+1 by omega)]
  ·have hb3 : (!(inW w k == nt)) = true := by simpa using hb2
   have hi:k/64<4:=by omega
   have hl4:k/64<v.length:=by rw[hv.len];exact hi
   have e1:=quoI_64 (c:=k) (by omega)
   have e5:idxA 4 1 (.ptr hx.next 1) ((k/64:Nat):Int)=some (.ptr hx.next (1+k/64)):=idxA_ptr hi
   have e3:=remI_64 (c:=k)
   have e4:=shlI_one (k:=k%64) (Nat.mod_lt _ (by decide))
   have hc:(nodeC 2 v .nsl)[1+k/64]? =_:=get_words (pre:=[.int .i64 2]) (post:=[.nsl]) hl4
   repeat(with_reducible first|refine Wp.join0 (fun _ _=>?_)|refine Wp.lett ?_|(apply Wp.obind;first|exact e1|exact e5|exact avBool_bool _)|(refine Wp.ift ?_ ?_;assumption))
   refine Wp.ld1 M hc ?_
   repeat(with_reducible first|refine Wp.lett ?_|(apply Wp.obind;first|exact e5|exact e3|exact e4|exact avInt_int _ _))
   rw[orI_nat (hv.get _) (pow_small (Nat.mod_lt _ (by decide)))]
   refine Wp.ms1 M (by rw[nodeC_len hv];omega) rfl fun h' M'=>?_
   have hs:(nodeC 2 v .nsl).set (1+k/64) (.int .u64 ((v.getD (k/64) 0|||2 ^ (k%64):Nat):Int))=nodeC 2 (addW v k) .nsl:=set_words (pre:=[.int .i64 2]) (post:=[.nsl]) hl4
   rw[hs] at M'
   repeat(first|((with_reducible refine Wp.lettw ?_ ?_ ?_);omega;omega)|(with_reducible refine Wp.go0 (by assumption) ?_))
   rw[el]
   refine pick_loop hw m f (k+1) (addW v k) h' (by omega) (by omega) (addW_ok hv k) (fun i hi=>?_) M' hk
   rw[inW_add hv hl,hbit i hi]
   by_cases h2:i=k
   ·subst h2
    rw[hb3,decide_eq_true rfl,Bool.or_true,decide_eq_true (Nat.lt_succ_self _),Bool.true_and]
   ·rw[decide_eq_decide.2 (show i<k↔i<k+1 by omega),decide_eq_false h2,Bool.or_false]
theorem class_enter{first:Bool}{B E:AHeap→R}(hi:j≤u.length)(hen:first=true∨at? u j≠some 93)(hB:Wp (B H) Q):
  Wp (lett (fun (t37:Bool) (h69:AHeap)=>lett (fun (t43:Bool) (h72:AHeap)=>ifB t43 (B h72) (E h72)) fun j43=>ifB t37 (j43 true h69) (obind (idxS u (j:Int)) fun t41=>lett ((t41:Int) != 93) fun (t42:Bool)=>j43 t42 h69)) fun j37=>ifB first (j37 true H) (lett (((j:Nat):Int) == (lenS u)) fun (t36:Bool)=>j37 t36 H)) Q:=by
 cases first with
 |true=>
  repeat(with_reducible first|refine Wp.join1 (fun _ _=>?_)|(refine Wp.ift ?_ ?_;rfl)|refine Wp.go1 (by assumption) ?_)
  exact hB
 | false =>
  have hne:=hen.resolve_left (by simp)
  have ll:=lenS_nat u
  rcases Nat.lt_or_ge j u.length with hlt|hge
  ·rw [at?_lt hlt] at hne
   have hx:=idxS_nat (l:=u) hlt
   have h93:(u[j]).toNat≠93:=fun hh=>hne (by rw[hh])
   repeat(first|(with_reducible first|refine Wp.join1 (fun _ _=>?_)|refine Wp.lett ?_|(apply Wp.obind;exact hx))|((with_reducible refine Wp.ift ?_ ?_);((with_reducible first|apply bne_t|apply beq_t);omega))|((with_reducible refine Wp.iff ?_ ?_);first|(with_reducible rfl)|((with_reducible apply beq_f);omega))|(with_reducible refine Wp.go1 (by assumption) ?_))
   exact hB
  ·repeat (first | (with_reducible first | refine Wp.join1 (fun _ _ => ?_) | refine Wp.lett ?_) | ((with_reducible refine Wp.ift ?_ ?_); first | (with_reducible rfl) | ((with_reducible apply beq_t); omega)) | (with_reducible first | (refine Wp.iff ?_ ?_; rfl) | refine Wp.go1 (by assumption) ?_))
   exact hB
theorem class_leave{B E:AHeap→R}(hen:at? u j=some 93)(hE:Wp (E H) Q):
  Wp (lett (fun (t37:Bool) (h69:AHeap)=>lett (fun (t43:Bool) (h72:AHeap)=>ifB t43 (B h72) (E h72)) fun j43=>ifB t37 (j43 true h69) (obind (idxS u (j:Int)) fun t41=>lett ((t41:Int) != 93) fun (t42:Bool)=>j43 t42 h69)) fun j37=>ifB false (j37 true H) (lett (((j:Nat):Int) == (lenS u)) fun (t36:Bool)=>j37 t36 H)) Q:=by
 have ll:=lenS_nat u
 obtain⟨hlt,h93⟩:=at?_some hen
 have hx:=idxS_nat (l:=u) hlt
 rw[h93] at hx
 repeat(first|(with_reducible first|refine Wp.join1 (fun _ _=>?_)|refine Wp.lett ?_|(apply Wp.obind;exact hx))|((with_reducible refine Wp.iff ?_ ?_);first|(with_reducible rfl)|((with_reducible first|apply bne_f|apply beq_f);omega))|(with_reducible refine Wp.go1 (by assumption) ?_))
 exact hE
theorem class_round{first:Bool}{self:Int→Bool→AHeap→R}{x z:RowT}(hu:u.length≤1000000)(hn:300<n)(hi:j≤u.length)(hen:first=true∨at? u j≠some 93)(hw:WordsOk w)(hz:z.2.2.length=6)(hz1:z.1=h.next)(M:Mem [] h H ((hb.next,TBools,boolsA w)::x::[z]))(hok:∀w' j' H',memberF u w j=.ok (w',j')→Mem [] h H' ((hb.next,TBools,boolsA w')::x::[z])→Wp (self ((j':Nat):Int) false H') Q)(hbad:∀q H',memberF u w j=.error q→Tch [] h H'→Q (.ret (set3 (.error q))) H'):
  Wp (ref09_class_L1b (worldR n (d+1)) n u h hb k25 self (j:Int) first H) Q:=by
 obtain⟨zb,zt,zc⟩:=z
 dsimp only at hz hz1
 subst hz1
 have ll:=lenS_nat u
 unfold ref09_class_L1b
 refine class_enter hi hen ?_
 have hm1:=member_w (n:=n) (d:=d) (h:=H) hi hu
 unfold memberF at hok hbad
 cases hb1:memB2 u j with
 |error q=>
  rw[hb1] at hm1 hok hbad
  refine Wp.callN hm1 ?_
  unfold mem3
  repeat(first|(with_reducible first|refine Wp.lett ?_|(apply Wp.obind;first|exact avInt_int _ _|exact avBool_bool _|exact extT_0 _ _|exact extT_1 _ _ _|exact extT_2 _ _ _ _)|(refine Wp.ift ?_ ?_;exact Bool.not_false))|rw[newP_eq])
  refine Wp.sa2 M rfl hz rfl fun _ M2=>?_
  refine Wp.lr2 M2 rfl ?_
  exact Wp.ret (hbad q _ rfl M2.tch)
 | ok cj =>
  obtain⟨c,j1⟩:=cj
  obtain⟨c1,c2,c3⟩:=memB2_ok hb1
  rw[hb1] at hm1 hok hbad
  dsimp only at hok hbad
  refine Wp.callN hm1 ?_
  unfold mem3
  have ew:IntKind.i64.wrap (c:Int)=(c:Int):=wrap_i64 (by omega) (by omega)
  by_cases h45:at? u j1=some 45
  ·rw [if_pos h45] at hok hbad
   obtain⟨hlt1,hc45⟩:=at?_some h45
   have hx1:=idxS_nat (l:=u) hlt1
   rw[hc45] at hx1
   have hm2:=member_w (n:=n) (d:=d) (h:=H) (i:=j1+1) (by omega) hu
   rw[show ((j1+1:Nat):Int)=(j1:Int)+1 by omega] at hm2
   cases hb2:memB2 u (j1+1) with
   |error q=>
    rw[hb2] at hm2 hok hbad
    unfold mem3 at hm2
    repeat(first|(with_reducible first|refine Wp.join1 (fun _ _=>?_)|refine Wp.join2 (fun _ _=>?_))|((with_reducible refine Wp.lettw ?_ ?_ ?_);omega;omega)|(with_reducible first|refine Wp.lett ?_|(apply Wp.obind;first|exact hx1|exact avInt_int _ _|exact avBool_bool _|exact extT_0 _ _|exact extT_1 _ _ _|exact extT_2 _ _ _ _))|((with_reducible refine Wp.ift ?_ ?_);first|(with_reducible exact Bool.not_false)|((with_reducible first|apply decide_eq_true|apply beq_t);omega))|(with_reducible first|(refine Wp.iff ?_ ?_;exact Bool.not_true)|(apply Wp.callN;exact hm2)|refine Wp.go1 (by assumption) ?_)|rw[newP_eq])
    refine Wp.sa2 M rfl hz rfl fun _ M2=>?_
    refine Wp.lr2 M2 rfl ?_
    exact Wp.ret (hbad q _ rfl M2.tch)
   | ok ek =>
    obtain⟨e,k⟩:=ek
    obtain⟨d1,d2,d3⟩:=memB2_ok hb2
    rw[hb2] at hm2 hok hbad
    dsimp only at hok hbad
    unfold mem3 at hm2
    by_cases hlt:e<c
    ·rw [if_pos hlt] at hok hbad
     repeat(first|(with_reducible first|refine Wp.join1 (fun _ _=>?_)|refine Wp.join2 (fun _ _=>?_))|((with_reducible refine Wp.lettw ?_ ?_ ?_);omega;omega)|(with_reducible first|refine Wp.lett ?_|(apply Wp.obind;first|exact hx1|exact avInt_int _ _|exact avBool_bool _|exact extT_0 _ _|exact extT_1 _ _ _|exact extT_2 _ _ _ _))|((with_reducible refine Wp.ift ?_ ?_);((with_reducible first|apply decide_eq_true|apply beq_t);omega))|(with_reducible first|(refine Wp.iff ?_ ?_;exact Bool.not_true)|(apply Wp.callN;exact hm2)|refine Wp.go1 (by assumption) ?_)|rw[newP_eq])
     refine Wp.sa2 M rfl hz rfl fun _ M2=>?_
     refine Wp.lr2 M2 rfl ?_
     have:=hbad (k - 1) _ rfl M2.tch
     rw[set3] at this
     rw[show ((k - 1:Nat):Int)=(k:Int) - 1 by omega] at this
     exact Wp.ret this
    ·rw [if_neg hlt] at hok hbad
     repeat(first|(with_reducible first|refine Wp.join0 (fun _ _=>?_)|refine Wp.join1 (fun _ _=>?_)|refine Wp.join2 (fun _ _=>?_))|((with_reducible refine Wp.lettw ?_ ?_ ?_);omega;omega)|(with_reducible first|refine Wp.lett ?_|(apply Wp.obind;first|exact hx1|exact avInt_int _ _|exact avBool_bool _|exact extT_0 _ _|exact extT_1 _ _ _|exact extT_2 _ _ _ _))|((with_reducible refine Wp.ift ?_ ?_);((with_reducible first|apply decide_eq_true|apply beq_t);omega))|((with_reducible refine Wp.iff ?_ ?_);first|(with_reducible exact Bool.not_true)|((with_reducible apply decide_eq_false);omega))|(with_reducible first|(apply Wp.callN;exact hm2)|(first|refine Wp.go1 (by assumption) ?_|refine Wp.go2 (by assumption) ?_)))
     rename_i k108 ek108
     have eh:(e:Int)=((c+(e+1 - c):Nat) - 1:Int):=by omega
     rw[eh]
     refine bool_loop (e+1 - c) n c w H (by omega) (by omega) hw M fun H' M2=>?_
     refine Wp.go0 ek108 ?_
     exact hok _ _ H' rfl M2
  ·rw [if_neg h45] at hok hbad
   rcases Nat.lt_or_ge j1 u.length with hlt1|hge1
   ·have hx1 := idxS_nat (l := u) hlt1
    rw[at?_lt hlt1] at h45
    have hc45:(u[j1]).toNat≠45:=fun hh=>h45 (by rw[hh])
    have e45:(((u[j1]).toNat:Int) == 45)=false:=beq_f (by omega)
    repeat(first|(with_reducible first|refine Wp.join0 (fun _ _=>?_)|refine Wp.join1 (fun _ _=>?_)|refine Wp.join2 (fun _ _=>?_))|((with_reducible refine Wp.lettw ?_ ?_ ?_);omega;omega)|(with_reducible first|refine Wp.lett ?_|(apply Wp.obind;first|exact hx1|exact avInt_int _ _|exact avBool_bool _|exact extT_0 _ _|exact extT_1 _ _ _|exact extT_2 _ _ _ _))|((with_reducible refine Wp.ift ?_ ?_);((with_reducible first|apply decide_eq_true|apply beq_t);omega))|(with_reducible first|(refine Wp.iff ?_ ?_;first|assumption|exact Bool.not_true)|(first|refine Wp.go1 (by assumption) ?_|refine Wp.go2 (by assumption) ?_)))
    rename_i k108 ek108
    refine Wp.eqx (y:=ref09_class_L2 hb ((c+1:Nat) - 1:Int) k108 n (c:Int) H) (by rw[show ((c+1:Nat) - 1:Int)=(c:Int) by omega]) ?_
    refine bool_loop 1 n c w H (by omega) (by omega) hw M fun H' M2=>?_
    refine Wp.go0 ek108 ?_
    exact hok _ _ H' rfl M2
   ·repeat (first | (with_reducible first | refine Wp.join0 (fun _ _ => ?_) | refine Wp.join1 (fun _ _ => ?_) | refine Wp.join2 (fun _ _ => ?_)) | ((with_reducible refine Wp.lettw ?_ ?_ ?_); omega; omega) | (with_reducible first | refine Wp.lett ?_ | (apply Wp.obind; first | exact avInt_int _ _ | exact avBool_bool _ | exact extT_0 _ _ | exact extT_1 _ _ _ | exact extT_2 _ _ _ _)) | ((with_reducible refine Wp.iff ?_ ?_); first | (with_reducible first | rfl | exact Bool.not_true) | ((with_reducible apply decide_eq_false); omega)) | (with_reducible first | refine Wp.go1 (by assumption) ?_ | refine Wp.go2 (by assumption) ?_))
    rename_i k108 ek108
    refine Wp.eqx (y:=ref09_class_L2 hb ((c+1:Nat) - 1:Int) k108 n (c:Int) H) (by rw[show ((c+1:Nat) - 1:Int)=(c:Int) by omega]) ?_
    refine bool_loop 1 n c w H (by omega) (by omega) hw M fun H' M2=>?_
    refine Wp.go0 ek108 ?_
    exact hok _ _ H' rfl M2
theorem class_loop{x z:RowT}(hu:u.length≤1000000)(hn:300<n)(hz:z.2.2.length=6)(hz1:z.1=h.next){r:Except Nat (List Nat×Nat)}(k:LoopP u w j r):WordsOk w→j≤u.length→∀{f:Nat} {H:AHeap},u.length - j<f→Mem [] h H ((hb.next,TBools,boolsA w)::x::[z])→
  (∀w' j' H',r=.ok (w',j'+1)→j'<u.length→WordsOk w'→Mem [] h H' ((hb.next,TBools,boolsA w')::x::[z])→Wp (k25 ((j':Nat):Int) H') Q)→(∀q H',r=.error q→Tch [] h H'→Q (.ret (set3 (.error q))) H')→
  Wp (ref09_class_L1 (worldR n (d+1)) n u h hb k25 f (j:Int) false H) Q:=by
 induction k with
 | done ht =>
  intro hw hi f H hf M hok hbad
  obtain⟨hlt,_⟩:=at?_some ht
  cases f with
  |zero=>omega
  |succ f=>
   rw[ref09_class_L1_s]
   unfold ref09_class_L1b
   exact class_leave ht (hok _ _ H rfl hlt hw M)
 | bad ht hm =>
  intro hw hi f H hf M hok hbad
  cases f with
  |zero=>omega
  | succ f =>
   rw[ref09_class_L1_s]
   refine class_round hu hn hi (.inr ht) hw hz hz1 M (fun w' j' H' e=>?_) (fun q H' e t=>?_)
   ·rw [hm] at e
    cases e
   ·rw [hm] at e
    cases e
    exact hbad _ H' rfl t
 | more ht hm m ih =>
  intro hw hi f H hf M hok hbad
  cases f with
  |zero=>omega
  | succ f =>
   rw[ref09_class_L1_s]
   refine class_round hu hn hi (.inr ht) hw hz hz1 M (fun w' j' H' e M2=>?_) (fun q H' e t=>?_)
   ·rw [hm] at e
    cases e
    obtain⟨m1,m2,m3⟩:=memberF_ok hw hm
    exact ih m1 m3 (by omega) M2 hok hbad
   ·rw [hm] at e
    cases e
end
open Go.RowKit Abs
theorem set3_scal(r:Except Nat (List Nat×Nat)):(set3 r).scal=true:=by
 cases r with
 |error q=>rfl
 |ok wj=>
  obtain⟨w,j⟩:=wj
  show ((AV.agg (nodeC 2 w .nsl)).scal&&_)=true
  rw[nodeC_scal]
  rfl
section
variable {n d i j:Nat}{h H h0 hb hx:AHeap}{u:Bytes}{Q:ARes→AHeap→Prop}{S:List Nat}{ys:List RowT}{w:List Nat}{k25:Int→AHeap→R}
theorem class_run{x z:RowT}(hu:u.length≤1000000)(hn:300<n)(hn2:u.length+5<n)(hi:i≤u.length)(hz:z.2.2.length=6)(hz1:z.1=h.next){r:Except Nat (List Nat×Nat)}(k:SetP u i r)(M:Mem [] h H ((hb.next,TBools,boolsA zeroW)::x::[z]))(hok:∀w' j' H',othersR u i (.ok (w',j'+1))=r→j'<u.length→WordsOk w'→Mem [] h H' ((hb.next,TBools,boolsA w')::x::[z])→Wp (k25 ((j':Nat):Int) H') Q)(hbad:∀q H',r=.error q→Tch [] h H'→Q (.ret (set3 (.error q))) H'):
  Wp (ref09_class_L1 (worldR n (d+1)) n u h hb k25 n ((setB u i:Nat):Int) true H) Q:=by
 obtain⟨f,hf⟩:∃f,n=f+1:=⟨n - 1,by omega⟩
 obtain⟨s1,s2⟩:=setB_bnd (a:=u) hi
 have key:∀self:Int→Bool→AHeap→R,(∀w' j' H',memberF u zeroW (setB u i)=.ok (w',j')→Mem [] h H' ((hb.next,TBools,boolsA w')::x::[z])→Wp (self ((j':Nat):Int) false H') Q)→(∀q H',memberF u zeroW (setB u i)=.error q→Tch [] h H'→Q (.ret (set3 (.error q))) H')→Wp (ref09_class_L1b (worldR n (d+1)) n u h hb k25 self ((setB u i:Nat):Int) true H) Q:=fun self=>class_round hu hn s2 (.inl rfl) zeroW_ok hz hz1 M
 have e:ref09_class_L1 (worldR n (d+1)) n u h hb k25 n ((setB u i:Nat):Int) true H=ref09_class_L1b (worldR n (d+1)) n u h hb k25 (ref09_class_L1 (worldR n (d+1)) n u h hb k25 f) ((setB u i:Nat):Int) true H:=by
  conv=>lhs;arg 7;rw[hf]
  rw[ref09_class_L1_s]
 rw[e]
 cases k with
 | bad hm =>
  refine key _ (fun w' j' H' e M2=>?_) fun q H' e t=>?_
  ·rw [hm] at e
   cases e
  ·rw [hm] at e
   cases e
   exact hbad _ H' rfl t
 | set hm m =>
  rename_i w1 j1 r1
  obtain⟨m1,m2,m3⟩:=memberF_ok zeroW_ok hm
  refine key _ (fun w' j' H' e M2=>?_) fun q H' e t=>?_
  ·rw [hm] at e
   cases e
   refine class_loop hu hn hz hz1 m m1 m3 (by omega) M2 (fun w2 j2 H2 e2=>?_) fun q H2 e2 t=>?_
   ·subst e2
    exact hok w2 j2 H2 rfl
   ·subst e2
    exact hbad q H2 rfl t
  ·rw [hm] at e
   cases e
theorem class_w(hu:u.length≤1000000)(hn:300<n)(hn2:u.length+5<n)(hi:i≤u.length){r:Except Nat (List Nat×Nat)}(k:SetP u i r):worldR n (d+2) 68 [strA u,.int .i64 (i:Int)] h=some (.ret (set3 r),h):=by
 apply Wp.eq
 rw[w_ref09_class]
 suffices hK:Wp (ref09_class (worldR n (d+1)) n u i h) fun v h'=>v=.ret (set3 r)∧Tch [] h h' from Wp.gc (hK.mono fun v h' ⟨e,t⟩=>⟨t.above,by rw[e];exact set3_scal r,e,rfl⟩)
 unfold ref09_class
 have Mx:=Mem.nil [] h
 have ll:=lenS_nat u
 -- what comes behind the members
 have fin:∀{nt:Bool} {hb hx:AHeap} {w':List Nat} {j':Nat} {H':AHeap} {xc:List AV},nt=decide (at? u i=some 94)→othersR u i (.ok (w',j'+1))=r→j'<u.length→WordsOk w'→xc=nodeC 2 zeroW .nsl→Mem [] h H' ((hb.next,TBools,boolsA w')::(hx.next,TNode,xc)::[(h.next,TNode,nodeC 0 zeroW .nsl)])→
   Wp (ref09_class_L0 hx nt hb (fun h32=>obind (ldRow h32 6 (newP hx)) fun t116=>lett (IntKind.i64.wrap (((j':Nat):Int)+1)) fun (t118:Int)=>obind (stRow h32 6 t116 (newP h)) fun h36=>obind (ldRow h36 6 (newP h)) fun w4=>some (.ret (.tup [.agg w4,.int .i64 t118,.bool true]),h36)) n 0 H') fun v h'=>v=.ret (set3 r)∧Tch [] h h':=by
  intro nt hb hx w' j' H' xc hnt hr hj hw exc M
  subst exc
  refine pick_loop (k:=0) (v:=zeroW) hw 256 n H' (by omega) rfl zeroW_ok (fun c hc=>?_) M fun H2 v hv hbit M2=>?_
  ·rw[inW_zero,decide_eq_false (Nat.not_lt_zero _),Bool.false_and]
  have ev:set3 r=.tup [.agg (nodeC 2 v .nsl),.int .i64 (((j':Nat):Int)+1),.bool true]:=by
   rw[←hr]
   unfold othersR
   rw[set3]
   have:v=if at? u i=some 94 then othersW w' else w':=by
    by_cases h94:at? u i=some 94
    ·rw [if_pos h94]
     rw[decide_eq_true h94] at hnt
     subst hnt
     refine inW_ext hv (othersW_ok hw) fun c hc=>?_
     rw[hbit c hc,inW_others hw hc]
     cases inW w' c<;>rfl
    ·rw [if_neg h94]
     rw[decide_eq_false h94] at hnt
     subst hnt
     refine inW_ext hv hw fun c hc=>?_
     rw[hbit c hc]
     cases inW w' c<;>rfl
   rw[this]
   rfl
  rw[ev]
  rw[newP_eq,newP_eq]
  have hl:=nodeC_len (kv:=.nsl) (op:=2) hv
  refine Wp.lr1 M2 hl ?_
  repeat(((with_reducible refine Wp.lettw ?_ ?_ ?_);omega;omega))
  refine Wp.sa2 M2 hl rfl (nodeC_one rfl) fun _ M3=>?_
  refine Wp.lr2 M3 hl ?_
  exact Wp.ret ⟨rfl,M3.tch⟩
 by_cases h94:at? u i=some 94
 ·obtain ⟨hlt, h94b⟩ := at?_some h94
  have hx:=idxS_nat (l:=u) hlt
  rw[h94b] at hx
  have es:((i:Nat):Int)+1=((setB u i:Nat):Int):=by
   unfold setB
   rw[if_pos h94]
   omega
  repeat(first|((with_reducible apply Wp.sa0 Mx);rfl;rfl;(rfl);clear Mx;intro _ Mx)|((with_reducible apply Wp.mnew Mx);clear Mx;intro _ Mx)|(with_reducible refine Wp.join1 (fun _ _=>?_))|((with_reducible refine Wp.lettw ?_ ?_ ?_);omega;omega)|(with_reducible first|refine Wp.lett ?_|(apply Wp.obind;exact hx))|((with_reducible refine Wp.ift ?_ ?_);((with_reducible first|apply decide_eq_true|apply beq_t);omega))|(with_reducible refine Wp.go1 (by assumption) ?_)|rw[newP_eq])
  rename_i k25 ek25
  rw[←bools0] at Mx
  rw[es]
  refine class_run hu hn hn2 hi rfl rfl k Mx (fun w' j' H' hr hj hw M2=>?_) fun q H' e t=>⟨by rw[e],t⟩
  refine Wp.go1 ek25 ?_
  exact fin (by rw[decide_eq_true h94];rfl) hr hj hw rfl M2
 ·have es : ((i : Nat) : Int) = ((setB u i : Nat) : Int) := by
   unfold setB
   rw[if_neg h94]
  rcases Nat.lt_or_ge i u.length with hlt|hge
  ·have hx := idxS_nat (l := u) hlt
   have hne:(u[i]).toNat≠94:=fun hh=>h94 (by rw[at?_lt hlt,hh])
   have e94:(((u[i]).toNat:Int) == 94)=false:=beq_f (by omega)
   repeat(first|((with_reducible apply Wp.sa0 Mx);rfl;rfl;(rfl);clear Mx;intro _ Mx)|((with_reducible apply Wp.mnew Mx);clear Mx;intro _ Mx)|(with_reducible first|refine Wp.join1 (fun _ _=>?_)|refine Wp.lett ?_|(apply Wp.obind;exact hx))|((with_reducible refine Wp.ift ?_ ?_);((with_reducible first|apply decide_eq_true|apply beq_t);omega))|(with_reducible first|(refine Wp.iff ?_ ?_;assumption)|refine Wp.go1 (by assumption) ?_)|rw[newP_eq])
   rename_i k25 ek25
   rw[←bools0] at Mx
   have ek26:=ek25
   rw[es]
   refine class_run hu hn hn2 hi rfl rfl k Mx (fun w' j' H' hr hj hw M2=>?_) fun q H' e t=>⟨by rw[e],t⟩
   refine Wp.go1 ek26 ?_
   exact fin (by rw[decide_eq_false h94];exact e94) hr hj hw rfl M2
  ·repeat (first | ((with_reducible apply Wp.sa0 Mx); rfl; rfl; (rfl); clear Mx; intro _ Mx) | ((with_reducible apply Wp.mnew Mx); clear Mx; intro _ Mx) | (with_reducible first | refine Wp.join1 (fun _ _ => ?_) | refine Wp.lett ?_) | ((with_reducible refine Wp.iff ?_ ?_); first | (with_reducible rfl) | ((with_reducible apply decide_eq_false); omega)) | (with_reducible refine Wp.go1 (by assumption) ?_) | rw [newP_eq])
   rename_i k25 ek25
   rw[←bools0] at Mx
   rw[es]
   refine class_run hu hn hn2 hi rfl rfl k Mx (fun w' j' H' hr hj hw M2=>?_) fun q H' e t=>⟨by rw[e],t⟩
   refine Wp.go1 ek25 ?_
   exact fin (by rw[decide_eq_false h94]) hr hj hw rfl M2
def RawN(h:AHeap):Res→ARes→AHeap→Prop
 | .ok (t,j),v,h'=>∃c T,v=.ret (.tup [.agg c,.int .i64 (j:Int),.bool true])∧NodeT t c T∧Mem [] h h' T
 | .error q,v,h'=>v=.ret (.tup [.agg (nodeC 0 zeroW .nsl),.int .i64 (q:Int),.bool false])∧Tch [] h h'
def OutN(h:AHeap)(x:R):Res→Prop
 | .ok (t,j)=>∃c T h',x=some (.ret (.tup [.agg c,.int .i64 (j:Int),.bool true]),h')∧NodeT t c T∧Mem [] h h' T
 | .error q=>x=some (.ret (.tup [.agg (nodeC 0 zeroW .nsl),.int .i64 (q:Int),.bool false]),h)
theorem OutN.gc{r:Res}{x:R}(k:Wp x (RawN h r)):OutN h (gcR h x) r:=by
 cases r with
 |error q=>
  apply Wp.eq
  exact Wp.gc (k.mono fun v h' ⟨e,t⟩=>⟨t.above,by rw[e];rfl,e,rfl⟩)
 | ok tj =>
  obtain⟨t,j⟩:=tj
  obtain⟨v,h',e,c,T,rfl,kt,M⟩:=k
  suffices hK:Wp (gcR h x) fun r h'=>∃T,r=.ret (.tup [.agg c,.int .i64 (j:Int),.bool true])∧NodeT t c T∧Mem [] h h' T by
   obtain⟨_,h',e,T,rfl,k1,k2⟩:=hK
   exact⟨c,T,h',e,k1,k2⟩
  refine Wp.gc2 ⟨_,h',e,⟨T,rfl,kt,M⟩,fun _ hl=>?_⟩
  have h1:AV.loL h.next c=true:=by
   have:(AV.loL h.next c&&(true&&(true&&AV.loL h.next [])))=true:=hl
   rw[Bool.and_eq_true] at this
   exact this.1
  have hT:T=[]:=kt.low (fun y hy=>(M.row y hy).2.2.resolve_left (by simp)) h1
  subst hT
  exact⟨[],rfl,kt,Mem.nil _ _⟩
theorem Wp.callOk{x:R}{t:Nd}{rs:List RowT}{k:AV→AHeap→R}(hx:OutN h x (.ok (t,j)))(M:Mem S h0 h rs)(hk:∀c T h',NodeT t c T→Mem S h0 h' (rs++T)→Wp (k (.tup [.agg c,.int .i64 (j:Int),.bool true]) h') Q):Wp (callN x k) Q:=by
 obtain⟨c,T,h',e,kt,M'⟩:=hx
 exact Wp.callN e (hk c T h' kt (Mem.frameT (xs:=[]) (ys:=[]) M M'))
theorem Wp.callBad{x:R}{q:Nat}{k:AV→AHeap→R}(hx:OutN h x (.error q))(hk:Wp (k (.tup [.agg (nodeC 0 zeroW .nsl),.int .i64 (q:Int),.bool false]) h) Q):Wp (callN x k) Q:=Wp.callN hx hk
end
noncomputable def bad3(q:Nat):AV:=.tup [.agg (nodeC 0 zeroW .nsl),.int .i64 (q:Int),.bool false]
def AtomM(u:Bytes)(n i:Nat)(r:Res):Prop:=∀{D:Nat} {h:AHeap},3*(u.length - i)+5≤D→memB TNode h.ex=false→OutN h (worldR n D 58 [strA u,.int .i64 (i:Int)] h) r
def RowM(u:Bytes)(n:Nat)(l:List Nd)(i:Nat)(r:Res):Prop:=∀{D f:Nat} {h H:AHeap} {kc:List (List AV)} {kv:AV} {T0 T1:List RowT} {z:List AV} {k7:Int→AV→AHeap→R} {Q:ARes→AHeap→Prop},3*(u.length - i)+5≤D→u.length - i<f→GrowT TNode 6 kc kv T0→KidsT l kc T1→memB TNode h.ex=false→l.length≤i→z.length=6→Mem [] h H ((h.next,TNode,z)::(T0++T1))→
 (∀l' j kc kv T0 T1 H',r=.ok (joinN 3 l',j)→GrowT TNode 6 kc kv T0→KidsT l' kc T1→Mem [] h H' ((h.next,TNode,z)::(T0++T1))→Wp (k7 ((j:Nat):Int) kv H') Q)→
 (∀q H',r=.error q→Tch [] h H'→Q (.ret (bad3 q)) H')→Wp (ref09_row_L0 (worldR n D) u h k7 f (i:Int) kv H) Q
def AltM(u:Bytes)(n:Nat)(l:List Nd)(i:Nat)(r:Res):Prop:=∀{D f:Nat} {h H:AHeap} {kc:List (List AV)} {kv:AV} {T0 T1:List RowT} {z:List AV},3*(u.length - i)+6≤D→u.length - i<f→GrowT TNode 6 kc kv T0→KidsT l kc T1→memB TNode h.ex=false→l.length≤i→z.length=6→Mem [] h H ((h.next,TNode,z)::(T0++T1))→
 Wp (ref09_alts_L0 (worldR n D) u h f (i:Int) kv H) (RawN h r)
section
variable {n i j q:Nat}{u:Bytes}{l:List Nd}{r:Res}{t:Nd}{w:List Nat}
theorem row_call(hu:u.length≤1000000)(hn2:u.length+5<n){D:Nat}{h:AHeap}(k:RowM u n [] i r)(hD:3*(u.length - i)+6≤D)(hx:memB TNode h.ex=false):OutN h (worldR n D 46 [strA u,.int .i64 (i:Int)] h) r:=by
 obtain⟨D,rfl⟩:∃D',D=D'+1:=⟨D - 1,by omega⟩
 rw[w_ref09_row]
 refine OutN.gc ?_
 unfold ref09_row
 refine Wp.mnew (Mem.nil [] h) fun h1 M1=>?_
 ((with_reducible refine Wp.join2 (fun _ _=>?_)))
 rename_i k7 ek7
 refine k (by omega) (by omega) (GrowT.nil _ _) .nil hx (Nat.zero_le _) rfl M1 (fun l' j kc kv T0 T1 H' hr g ks M2=>?_) fun q H' hr ht=>?_
 ·subst hr
  refine Wp.go2 ek7 ?_
  obtain⟨D,rfl⟩:∃D',D=D'+1:=⟨D - 1,by omega⟩
  obtain⟨c,T,h2,e2,kt,M3⟩:=Over_r (n:=n) (d:=D) 3 (xs:=[_]) M2 g ks
  refine Wp.callN e2 (Wp.obind (avAgg_agg _) ?_)
  rw[newP_eq]
  refine Wp.sa0 M3 kt.len rfl kt.one fun h3 M4=>?_
  refine Wp.lr0 M4 kt.len ?_
  exact Wp.ret ⟨c,T,rfl,kt,M4.pop⟩
 ·subst hr
  exact⟨rfl,ht⟩
theorem alt_call(hn2:u.length+5<n){D:Nat}{h:AHeap}(k:AltM u n [] i r)(hD:3*(u.length - i)+7≤D)(hx:memB TNode h.ex=false):OutN h (worldR n D 30 [strA u,.int .i64 (i:Int)] h) r:=by
 obtain⟨D,rfl⟩:∃D',D=D'+1:=⟨D - 1,by omega⟩
 rw[w_ref09_alts]
 refine OutN.gc ?_
 unfold ref09_alts
 refine Wp.mnew (Mem.nil [] h) fun h1 M1=>?_
 exact k (by omega) (by omega) (GrowT.nil _ _) .nil hx (Nat.zero_le _) rfl M1
theorem alt_bad(hu:u.length≤1000000)(hn2:u.length+5<n)(k:RowM u n [] i (.error q)):AltM u n l i (.error q):=by
 intro D f h H kc kv T0 T1 z hD hf g ks hx hl hz M
 obtain⟨f,rfl⟩:∃f',f=f'+1:=⟨f - 1,by omega⟩
 have hc:=row_call hu hn2 (h:=H) k hD (by rw[M.ex];exact hx)
 rw[ref09_alts_L0_s]
 unfold ref09_alts_L0b
 refine Wp.callBad hc ?_
 have Mx:=M
 have hb:(nodeC 0 zeroW .nsl).length=6:=rfl
 repeat(first|(with_reducible apply Wp.obind;first|exact avInt_int _ _|exact avBool_bool _)|((with_reducible apply Wp.sa0 Mx);rfl;rfl;(rfl);clear Mx;intro _ Mx)|((with_reducible apply Wp.mnew Mx);clear Mx;intro _ Mx)|(with_reducible first|refine Wp.lett ?_|(apply Wp.obind;first|exact avAgg_agg _|exact extT_0 _ _|exact extT_1 _ _ _|exact extT_2 _ _ _ _)|(refine Wp.ift ?_ ?_;exact Bool.not_false))|rw[newP_eq])
 refine Wp.sa1 Mx rfl hz rfl fun _ M2=>?_
 refine Wp.lr1 M2 rfl ?_
 exact Wp.ret ⟨rfl,M2.tch⟩
theorem alt_step{D:Nat}{h H:AHeap}{kc:List (List AV)}{kv:AV}{T0 T1:List RowT}{z:List AV}{Q:ARes→AHeap→Prop}(hu:u.length≤1000000)(hn2:u.length+5<n)(k:RowM u n [] i (.ok (t,j)))(hD:3*(u.length - i)+6≤D)(g:GrowT TNode 6 kc kv T0)(ks:KidsT l kc T1)(hx:memB TNode h.ex=false)(hl:l.length≤1000000)(M:Mem [] h H ((h.next,TNode,z)::(T0++T1)))(self:Int→AV→AHeap→R)(hk:∀kc' kv' T0' T1' H',GrowT TNode 6 kc' kv' T0'→KidsT (l++[t]) kc' T1'→Mem [] h H' ((h.next,TNode,z)::(T0'++T1'))→Wp (lett (((j:Nat):Int) == (lenS u)) fun (t29:Bool)=>
  lett (fun (t35:Bool) (h_39:AHeap)=>
   ifB t35
   (
    callN (worldR n D 44 [.int .i64 4,kv'] h_39) fun r37 h_43=>
    obind (avAgg r37) fun t37=>
    obind (stRow h_43 6 t37 (newP h)) fun h_46=>
    obind (ldRow h_46 6 (newP h)) fun w4_49=>
    some (.ret (.tup [.agg w4_49,.int .i64 ((j:Nat):Int),.bool true]),h_46))
   (
    lett (IntKind.i64.wrap (((j:Nat):Int)+1)) fun (t40:Int)=>
    self t40 kv' h_39)) fun j35=>
  ifB t29
  (
   j35 true H')
  (
   obind (idxS u ((j:Nat):Int)) fun t33=>
   lett ((t33:Int) != 124) fun (t34:Bool)=>
   j35 t34 H')) Q):Wp (ref09_alts_L0b (worldR n D) u h self (i:Int) kv H) Q:=by
 have hc:=row_call hu hn2 (h:=H) k hD (by rw[M.ex];exact hx)
 unfold ref09_alts_L0b
 refine Wp.callOk hc M fun c T h2 kt M2=>?_
 refine Wp.obind (extT_0 _ _) (Wp.obind (avAgg_agg _) (Wp.obind (extT_1 _ _ _) (Wp.obind (avInt_int _ _) (Wp.obind (extT_2 _ _ _ _) (Wp.obind (avBool_bool _) ?_)))))
 refine Wp.mnew M2 fun h3 M3=>?_
 rw[newP_eq,newP_eq]
 refine Wp.sa0 M3 kt.len rfl kt.one fun h4 M4=>?_
 refine Wp.lett (Wp.iff rfl ?_)
 refine Wp.lr0 M4 kt.len ?_
 refine Wp.nodeGrow M4 g ks kt hx (by omega) fun kv' h' T0' g' ks' M5=>?_
 have:=hk _ kv' T0' _ h' g' ks' M5.pop
 rw[newP_eq] at this
 exact this
theorem alt_last(hu:u.length≤1000000)(hn2:u.length+5<n)(hj:j≤u.length)(k:RowM u n [] i (.ok (t,j)))(ne:at? u j≠some 124)(hi:i≤u.length):AltM u n l i (.ok (joinN 4 (l++[t]),j)):=by
 intro D f h H kc kv T0 T1 z hD hf g ks hx hl hz M
 obtain⟨f,rfl⟩:∃f',f=f'+1:=⟨f - 1,by omega⟩
 rw[ref09_alts_L0_s]
 refine alt_step hu hn2 k hD g ks hx (by omega) M _ fun kc' kv' T0' T1' H' g' ks' M2=>?_
 have ll:=lenS_nat u
 obtain⟨D,rfl⟩:∃D',D=D'+1:=⟨D - 1,by omega⟩
 obtain⟨c,T,h2,e2,kt,M3⟩:=Over_r (n:=n) (d:=D) 4 (xs:=[_]) M2 g' ks'
 rcases Nat.lt_or_ge j u.length with hlt|hge
 ·have hx1 := idxS_nat (l := u) hlt
  rw[at?_lt hlt] at ne
  have hne:(u[j]).toNat≠124:=fun hh=>ne (by rw[hh])
  repeat(first|(with_reducible first|refine Wp.join1 (fun _ _=>?_)|refine Wp.lett ?_|(apply Wp.obind;exact hx1))|((with_reducible refine Wp.ift ?_ ?_);((with_reducible first|apply bne_t|apply beq_t);omega))|((with_reducible refine Wp.iff ?_ ?_;apply beq_f);omega)|(with_reducible refine Wp.go1 (by assumption) ?_)|rw[newP_eq])
  refine Wp.callN e2 (Wp.obind (avAgg_agg _) ?_)
  refine Wp.sa0 M3 kt.len hz kt.one fun h3 M4=>?_
  refine Wp.lr0 M4 kt.len ?_
  exact Wp.ret ⟨c,T,rfl,kt,M4.pop⟩
 ·repeat (first | (with_reducible first | refine Wp.join1 (fun _ _ => ?_) | refine Wp.lett ?_) | ((with_reducible refine Wp.ift ?_ ?_); first | (with_reducible rfl) | ((with_reducible apply beq_t); omega)) | (with_reducible refine Wp.go1 (by assumption) ?_) | rw [newP_eq])
  refine Wp.callN e2 (Wp.obind (avAgg_agg _) ?_)
  refine Wp.sa0 M3 kt.len hz kt.one fun h3 M4=>?_
  refine Wp.lr0 M4 kt.len ?_
  exact Wp.ret ⟨c,T,rfl,kt,M4.pop⟩
theorem alt_more(hu:u.length≤1000000)(hn2:u.length+5<n)(hij:i≤j)(k:RowM u n [] i (.ok (t,j)))(ne:at? u j=some 124)(hi:i≤u.length)(m:AltM u n (l++[t]) (j+1) r):AltM u n l i r:=by
 intro D f h H kc kv T0 T1 z hD hf g ks hx hl hz M
 obtain⟨f,rfl⟩:∃f',f=f'+1:=⟨f - 1,by omega⟩
 rw[ref09_alts_L0_s]
 refine alt_step hu hn2 k hD g ks hx (by omega) M _ fun kc' kv' T0' T1' H' g' ks' M2=>?_
 have ll:=lenS_nat u
 obtain⟨hlt,h124⟩:=at?_some ne
 have hx1:=idxS_nat (l:=u) hlt
 rw[h124] at hx1
 repeat(first|(with_reducible refine Wp.join1 (fun _ _=>?_))|((with_reducible refine Wp.lettw ?_ ?_ ?_);omega;omega)|(with_reducible first|refine Wp.lett ?_|(apply Wp.obind;exact hx1))|((with_reducible refine Wp.iff ?_ ?_);((with_reducible first|apply bne_f|apply beq_f);omega))|(with_reducible refine Wp.go1 (by assumption) ?_))
 rw[show (j:Int)+1=((j+1:Nat):Int) by omega]
 exact m (by omega) (by omega) g' ks' hx (by simp;omega) hz M2
theorem row_stop(hi:i≤u.length)(s:stops u i):RowM u n l i (.ok (joinN 3 l,i)):=by
 intro D f h H kc kv T0 T1 z k7 Q hD hf g ks hx hl hz M hok hbad
 obtain⟨f,rfl⟩:∃f',f=f'+1:=⟨f - 1,by omega⟩
 have hfin:=hok l i kc kv T0 T1 H rfl g ks M
 have ll:=lenS_nat u
 rw[ref09_row_L0_s]
 unfold ref09_row_L0b
 rcases s with hc|hc|hc
 ·have := at?_none hc hi
  repeat(first|(with_reducible first|refine Wp.join1 (fun _ _=>?_)|refine Wp.lett ?_)|((with_reducible refine Wp.iff ?_ ?_);first|(with_reducible rfl)|((with_reducible apply decide_eq_false);omega))|(with_reducible refine Wp.go1 (by assumption) ?_))
  exact hfin
 ·obtain ⟨hlt, h124⟩ := at?_some hc
  have hx1:=idxS_nat (l:=u) hlt
  rw[h124] at hx1
  repeat(first|(with_reducible first|refine Wp.join1 (fun _ _=>?_)|refine Wp.lett ?_|(apply Wp.obind;exact hx1))|((with_reducible refine Wp.ift ?_ ?_);((with_reducible first|apply decide_eq_true|apply bne_t);omega))|((with_reducible refine Wp.iff ?_ ?_);first|(with_reducible rfl)|((with_reducible apply bne_f);omega))|(with_reducible refine Wp.go1 (by assumption) ?_))
  exact hfin
 ·obtain ⟨hlt, h41⟩ := at?_some hc
  have hx1:=idxS_nat (l:=u) hlt
  rw[h41] at hx1
  repeat(first|(with_reducible first|refine Wp.join1 (fun _ _=>?_)|refine Wp.lett ?_|(apply Wp.obind;exact hx1))|((with_reducible refine Wp.ift ?_ ?_);((with_reducible first|apply decide_eq_true|apply bne_t);omega))|((with_reducible refine Wp.iff ?_ ?_;apply bne_f);omega)|(with_reducible refine Wp.go1 (by assumption) ?_))
  exact hfin
theorem go_in(s:¬stops u i):∃h:i<u.length,(u[i]).toNat≠124∧(u[i]).toNat≠41:=by
 rcases Nat.lt_or_ge i u.length with h|h
 ·refine ⟨h, fun hh => s (.inr (.inl ?_)), fun hh => s (.inr (.inr ?_))⟩
  ·rw[at?_lt h,hh]
  ·rw[at?_lt h,hh]
 ·exact absurd (.inl (at?_ge h)) s
theorem row_bad(s:¬stops u i)(k:AtomM u n i (.error q)):RowM u n l i (.error q):=by
 intro D f h H kc kv T0 T1 z k7 Q hD hf g ks hx hl hz M hok hbad
 obtain⟨f,rfl⟩:∃f',f=f'+1:=⟨f - 1,by omega⟩
 have ll:=lenS_nat u
 obtain⟨hlt,n1,n2⟩:=go_in s
 have hx1:=idxS_nat (l:=u) hlt
 have e41:(((u[i]).toNat:Int) != 41)=true:=bne_t (by omega)
 rw[ref09_row_L0_s]
 unfold ref09_row_L0b
 repeat(first|(with_reducible first|refine Wp.join1 (fun _ _=>?_)|refine Wp.lett ?_|(apply Wp.obind;exact hx1))|((with_reducible refine Wp.ift ?_ ?_);first|(with_reducible assumption)|((with_reducible first|apply decide_eq_true|apply bne_t);omega))|(with_reducible refine Wp.go1 (by assumption) ?_)|rw[newP_eq])
 refine Wp.callBad (k hD (by rw[M.ex];exact hx)) ?_
 have Mx:=M
 repeat(first|(with_reducible apply Wp.obind;first|exact avInt_int _ _|exact avBool_bool _)|((with_reducible apply Wp.sa0 Mx);rfl;rfl;(rfl);clear Mx;intro _ Mx)|((with_reducible apply Wp.mnew Mx);clear Mx;intro _ Mx)|(with_reducible first|refine Wp.lett ?_|(apply Wp.obind;first|exact avAgg_agg _|exact extT_0 _ _|exact extT_1 _ _ _|exact extT_2 _ _ _ _)|(refine Wp.ift ?_ ?_;exact Bool.not_false))|rw[newP_eq])
 refine Wp.sa1 Mx rfl hz rfl fun _ M2=>?_
 refine Wp.lr1 M2 rfl ?_
 exact Wp.ret (hbad q _ rfl M2.tch)
end
theorem sign_pos{u:Bytes}{j:Nat}(h:signAt u j≠0):∃c,at? u j=some c∧((c=42∧signAt u j=5)∨(c=43∧signAt u j=6)∨(c=63∧signAt u j=7)):=by
 unfold signAt at h ⊢
 cases hc:at? u j with
 |none=>
  rw[hc] at h
  exact absurd rfl h
 |some c=>
  rw[hc] at h
  refine⟨c,rfl,?_⟩
  dsimp only at h ⊢
  unfold signOp at h ⊢
  split at h
  ·exact .inl ⟨rfl,rfl⟩
  ·exact .inr (.inl ⟨rfl,rfl⟩)
  ·exact .inr (.inr ⟨rfl,rfl⟩)
  ·exact absurd rfl h
theorem sign_zero{u:Bytes}{j:Nat}(h:signAt u j=0){c:Nat}(hc:at? u j=some c):c≠42∧c≠43∧c≠63:=by
 rw[signAt_some hc] at h
 refine⟨fun hh=>?_,fun hh=>?_,fun hh=>?_⟩<;>subst hh<;>exact absurd h (by decide)
section
variable {n i j q:Nat}{u:Bytes}{l:List Nd}{r:Res}{t:Nd}{w:List Nat}
theorem row_step {D : Nat} {h H : AHeap} {kv : AV} {T0 T1 : List RowT} {z : List AV} {Q : ARes → AHeap → Prop} {k7 : Int → AV → AHeap → R} (s : ¬ stops u i) (k : AtomM u n i (.ok (t, j))) (hD : 3 * (u.length - i) + 5 ≤ D) (hx : memB TNode h.ex = false) (M : Mem [] h H ((h.next, TNode, z) :: (T0 ++ T1))) (self : Int → AV → AHeap → R)
  (hk : ∀ c T q H', NodeT t c T → Mem [] h H' ((q, TNode, c) :: (((h.next, TNode, z) :: (T0 ++ T1)) ++ T)) → Wp (lett (decide (((j : Nat) : Int) < (lenS u))) fun (t43 : Bool) =>
     lett (fun (t11:Int) (h_58:AHeap)=>
      lett (decide (t11>0)) fun (t54:Bool)=>
      lett (fun (t1_63:Int) (h_64:AHeap)=>
       obind (ldRow h_64 6 (.ptr q 0)) fun t62=>
       outK (bldSl Tryd.prog h_64 TNodes 1 [(0,.agg t62)]) fun v63 h_66=>
       outK (opAppend Tryd.prog h_66 TNodes TNodes kv v63) fun v64 h_68=>
       self t1_63 v64 h_68) fun k62=>
      ifB t54
      (
       obind (ldRow h_58 6 (.ptr q 0)) fun t56=>
       outK (bldSl Tryd.prog h_58 TNodes 1 [(0,.agg t56)]) fun v57 h_72=>
       obind (bldS Tryd.prog TNode [(0,.int .i64 t11),(2,v57)]) fun t58=>
       obind (stRow h_72 6 t58 (.ptr q 0)) fun h_75=>
       lett (IntKind.i64.wrap (((j:Nat):Int)+1)) fun (t60:Int)=>
       k62 t60 h_75)
      (
       k62 ((j:Nat):Int) h_58)) fun k57=>
     ifB t43
     (
      obind (idxS u ((j:Nat):Int)) fun t46=>
      lett ((t46:Int) == 42) fun (t48:Bool)=>
      lett (fun (t11_84:Int) (h_85:AHeap)=>
       k57 t11_84 h_85) fun k83=>
      ifB t48
      (
       k83 5 H')
      (
       lett ((t46:Int) == 43) fun (t50:Bool)=>
       lett (fun (t11_89:Int) (h_90:AHeap)=>
        k83 t11_89 h_90) fun k88=>
       ifB t50
       (
        k88 6 H')
       (
        lett ((t46:Int) == 63) fun (t52:Bool)=>
        lett (fun (t11_94:Int) (h_95:AHeap)=>
         k88 t11_94 h_95) fun k93=>
        ifB t52
        (
         k93 7 H')
        (
         k93 0 H'))))
     (
      k57 0 H')) Q):Wp (ref09_row_L0b (worldR n D) u h k7 self (i:Int) kv H) Q:=by
 have ll:=lenS_nat u
 obtain⟨hlt,n1,n2⟩:=go_in s
 have hx1:=idxS_nat (l:=u) hlt
 have e41:(((u[i]).toNat:Int) != 41)=true:=bne_t (by omega)
 unfold ref09_row_L0b
 repeat(first|(with_reducible first|refine Wp.join1 (fun _ _=>?_)|refine Wp.lett ?_|(apply Wp.obind;exact hx1))|((with_reducible refine Wp.ift ?_ ?_);first|(with_reducible assumption)|((with_reducible first|apply decide_eq_true|apply bne_t);omega))|(with_reducible refine Wp.go1 (by assumption) ?_)|rw[newP_eq])
 refine Wp.callOk (k hD (by rw[M.ex];exact hx)) M fun c T h2 kt M2=>?_
 refine Wp.obind (extT_0 _ _) (Wp.obind (avAgg_agg _) (Wp.obind (extT_1 _ _ _) (Wp.obind (avInt_int _ _) (Wp.obind (extT_2 _ _ _ _) (Wp.obind (avBool_bool _) ?_)))))
 refine Wp.mnew M2 fun h3 M3=>?_
 rw[newP_eq]
 refine Wp.sa0 M3 kt.len rfl kt.one fun h4 M4=>?_
 refine Wp.lett (Wp.iff rfl ?_)
 exact hk c T h2.next h4 kt M4
theorem row_bare(hu:u.length≤1000000)(hij:i<j)(hj:j≤u.length)(hi:i≤u.length)(s:¬stops u i)(k:AtomM u n i (.ok (t,j)))(n0:signAt u j=0)(m:RowM u n (l++[t]) j r):RowM u n l i r:=by
 intro D f h H kc kv T0 T1 z k7 Q hD hf g ks hx hl hz M hok hbad
 obtain⟨f,rfl⟩:∃f',f=f'+1:=⟨f - 1,by omega⟩
 have ll:=lenS_nat u
 rw[ref09_row_L0_s]
 refine row_step s k hD hx M _ fun c T q H' kt M2=>?_
 have fin:Wp (obind (ldRow H' 6 (.ptr q 0)) fun t62=>
       outK (bldSl Tryd.prog H' TNodes 1 [(0,.agg t62)]) fun v63 h_66=>
       outK (opAppend Tryd.prog h_66 TNodes TNodes kv v63) fun v64 h_68=>
       ref09_row_L0 (worldR n D) u h k7 f ((j:Nat):Int) v64 h_68) Q:=by
  refine Wp.lr0 M2 kt.len ?_
  refine Wp.nodeGrow M2 g ks kt hx (by omega) fun kv' h' T0' g' ks' M5=>?_
  exact m (by omega) (by omega) g' ks' hx (by simp;omega) hz M5.pop hok hbad
 rcases Nat.lt_or_ge j u.length with hlt|hge
 ·obtain ⟨z1, z2, z3⟩ := sign_zero n0 (at?_lt hlt)
  have hx1:=idxS_nat (l:=u) hlt
  repeat(first|(with_reducible first|refine Wp.join1 (fun _ _=>?_)|refine Wp.lett ?_|(apply Wp.obind;exact hx1))|((with_reducible refine Wp.ift ?_ ?_);((with_reducible first|apply decide_eq_true|apply beq_t);omega))|((with_reducible refine Wp.iff ?_ ?_);((with_reducible first|apply decide_eq_false|apply beq_f);omega))|(with_reducible refine Wp.go1 (by assumption) ?_))
  exact fin
 ·repeat (first | (with_reducible first | refine Wp.join1 (fun _ _ => ?_) | refine Wp.lett ?_) | ((with_reducible refine Wp.iff ?_ ?_; apply decide_eq_false); omega) | (with_reducible refine Wp.go1 (by assumption) ?_))
  exact fin
theorem row_sign(hu:u.length≤1000000)(hij:i<j)(hi:i≤u.length)(s:¬stops u i)(k:AtomM u n i (.ok (t,j)))(n0:signAt u j≠0)(m:RowM u n (l++[overN (signAt u j) [t]]) (j+1) r):RowM u n l i r:=by
 intro D f h H kc kv T0 T1 z k7 Q hD hf g ks hx hl hz M hok hbad
 obtain⟨f,rfl⟩:∃f',f=f'+1:=⟨f - 1,by omega⟩
 have ll:=lenS_nat u
 rw[ref09_row_L0_s]
 refine row_step s k hD hx M _ fun c T q H' kt M2=>?_
 obtain⟨c0,hc0,hs⟩:=sign_pos n0
 obtain⟨hlt,hc1⟩:=at?_some hc0
 have fin:∀k62:Int→AHeap→R,(k62=fun (t1_63:Int) (h_64:AHeap)=>obind (ldRow h_64 6 (.ptr q 0)) fun t62=>
       outK (bldSl Tryd.prog h_64 TNodes 1 [(0,.agg t62)]) fun v63 h_66=>
       outK (opAppend Tryd.prog h_66 TNodes TNodes kv v63) fun v64 h_68=>
       ref09_row_L0 (worldR n D) u h k7 f t1_63 v64 h_68)→Wp (obind (ldRow H' 6 (.ptr q 0)) fun t56=>
       outK (bldSl Tryd.prog H' TNodes 1 [(0,.agg t56)]) fun v57 h_72=>
       obind (bldS Tryd.prog TNode [(0,.int .i64 ((signAt u j:Nat):Int)),(2,v57)]) fun t58=>
       obind (stRow h_72 6 t58 (.ptr q 0)) fun h_75=>
       lett (IntKind.i64.wrap (((j:Nat):Int)+1)) fun (t60:Int)=>k62 t60 h_75) Q:=by
  intro k62 ek62
  refine Wp.lr0 M2 kt.len ?_
  refine Wp.mnews M2 (kt.bld _) kt.one hx fun h72 M3=>?_
  refine Wp.obind (bldOver1 _ _ _) ?_
  have kt':=signed kt (signAt u j) H'.next
  have M4:Mem [] h h72 ((q,TNode,c)::(((h.next,TNode,z)::(T0++T1))++([(H'.next,TNode,c)]++(T++[])))):=M3.perm (by
   rw[List.append_nil]
   exact(List.Perm.cons _ (List.perm_append_comm_assoc ((h.next,TNode,z)::(T0++T1)) [(H'.next,TNode,c)] T)).trans (List.Perm.swap _ _ _))
  refine Wp.sa0 M4 rfl kt.len rfl fun h75 M5=>?_
  repeat(first|((with_reducible refine Wp.lettw ?_ ?_ ?_);omega;omega)|(with_reducible refine Wp.go1 (by assumption) ?_))
  refine Wp.lr0 M5 rfl ?_
  refine Wp.nodeGrow M5 g ks kt' hx (by omega) fun kv' h' T0' g' ks' M6=>?_
  rw[show (j:Int)+1=((j+1:Nat):Int) by omega]
  exact m (by omega) (by omega) g' ks' hx (by simp;omega) hz M6.pop hok hbad
 have hx1:=idxS_nat (l:=u) hlt
 rw[hc1] at hx1
 rcases hs with⟨rfl,hs⟩|⟨rfl,hs⟩|⟨rfl,hs⟩
 ·rw [hs] at fin
  repeat(first|(with_reducible first|refine Wp.join1 (fun _ _=>?_)|refine Wp.lett ?_|(apply Wp.obind;exact hx1))|((with_reducible refine Wp.ift ?_ ?_);((with_reducible first|apply decide_eq_true|apply beq_t);omega))|(with_reducible refine Wp.go1 (by assumption) ?_))
  rename_i k62 ek62
  exact fin k62 ek62
 ·rw [hs] at fin
  repeat(first|(with_reducible first|refine Wp.join1 (fun _ _=>?_)|refine Wp.lett ?_|(apply Wp.obind;exact hx1))|((with_reducible refine Wp.ift ?_ ?_);((with_reducible first|apply decide_eq_true|apply beq_t);omega))|((with_reducible refine Wp.iff ?_ ?_;apply beq_f);omega)|(with_reducible refine Wp.go1 (by assumption) ?_))
  rename_i k62 ek62
  exact fin k62 ek62
 ·rw [hs] at fin
  repeat(first|(with_reducible first|refine Wp.join1 (fun _ _=>?_)|refine Wp.lett ?_|(apply Wp.obind;exact hx1))|((with_reducible refine Wp.ift ?_ ?_);((with_reducible first|apply decide_eq_true|apply beq_t);omega))|((with_reducible refine Wp.iff ?_ ?_;apply beq_f);omega)|(with_reducible refine Wp.go1 (by assumption) ?_))
  rename_i k62 ek62
  exact fin k62 ek62
end
section
variable {n i j q:Nat}{u:Bytes}{l:List Nd}{r:Res}{t:Nd}{w:List Nat}
theorem loopP_words{r:Except Nat (List Nat×Nat)}(k:LoopP u w j r):WordsOk w→∀w' j',r=.ok (w',j')→WordsOk w':=by
 induction k with
 |done ht=>
  intro hw w' j' e
  cases e
  exact hw
 |bad ht hm=>
  intro hw w' j' e
  cases e
 |more ht hm m ih=>
  intro hw
  exact ih (memberF_ok hw hm).1
theorem setP_words{r:Except Nat (List Nat×Nat)}(k:SetP u i r):∀w' j',r=.ok (w',j')→WordsOk w':=by
 intro w' j' e
 cases k with
 |bad hm=>cases e
 | set hm m =>
  rename_i w1 j1 r1
  cases r1 with
  |error q=>cases e
  |ok wj=>
   obtain⟨w2,j2⟩:=wj
   have:=loopP_words m (memberF_ok zeroW_ok hm).1 w2 j2 rfl
   unfold othersR at e
   cases e
   split
   ·exact othersW_ok this
   ·exact this
theorem rowP_end:∀{l:List Nd} {i:Nat} {r:Res},RowP u l i r→∀t j,r=.ok (t,j)→stops u j
 |_,_,_,.stop s,_,_,e=>by
  cases e
  exact s
 |_,_,_,.bad _ _,_,_,e=>by cases e
 |_,_,_,.more _ _ m,t,j,e=>rowP_end m t j e
termination_by structural _ _ _ x=>x
theorem altP_end:∀{l:List Nd} {i:Nat} {r:Res},AltP u l i r→∀t j,r=.ok (t,j)→at? u j=none∨at? u j=some 41
 |_,_,_,.bad _,_,_,e=>by cases e
 |_,_,_,.last h n,t,j,e=>by
  cases e
  rcases rowP_end h _ _ rfl with s|s|s
  ·exact .inl s
  ·exact absurd s n
  ·exact .inr s
 |_,_,_,.more _ _ m,t,j,e=>altP_end m t j e
termination_by structural _ _ _ x=>x
theorem atom_open_bad(hu:u.length≤1000000)(hn2:u.length+5<n)(h0:at? u i=some 40)(m:AltM u n [] (i+1) (.error q)):AtomM u n i (.error q):=by
 intro D h hD hx
 obtain⟨D,rfl⟩:∃D',D=D'+1:=⟨D - 1,by omega⟩
 obtain⟨hlt,hc⟩:=at?_some h0
 have hx1:=idxS_nat (l:=u) hlt
 rw[hc] at hx1
 rw[w_ref09_atom]
 refine OutN.gc ?_
 unfold ref09_atom
 have ll:=lenS_nat u
 refine Wp.mnew (Mem.nil [] h) fun h2 M=>?_
 have ho:=alt_call hn2 (h:=h2) m (show 3*(u.length - (i+1))+7≤D by omega) (by rw[M.ex];exact hx)
 repeat(first|((with_reducible refine Wp.lettw ?_ ?_ ?_);omega;omega)|(with_reducible first|refine Wp.lett ?_|(apply Wp.obind;exact hx1))|((with_reducible refine Wp.ift ?_ ?_;apply beq_t);omega)|rw[newP_eq])
 refine Wp.callBad ho ?_
 have Mx:=M
 repeat(first|(with_reducible apply Wp.obind;first|exact avInt_int _ _|exact avBool_bool _)|((with_reducible apply Wp.lr0 Mx);rfl)|((with_reducible apply Wp.sa0 Mx);rfl;rfl;(rfl);clear Mx;intro _ Mx)|((with_reducible apply Wp.lr1 Mx);rfl)|((with_reducible apply Wp.sa1 Mx);rfl;rfl;(rfl);clear Mx;intro _ Mx)|((with_reducible apply Wp.mnew Mx);clear Mx;intro _ Mx)|(with_reducible first|refine Wp.lett ?_|(apply Wp.obind;first|exact avAgg_agg _|exact extT_0 _ _|exact extT_1 _ _ _|exact extT_2 _ _ _ _)|(refine Wp.ift ?_ ?_;exact Bool.not_false))|rw[newP_eq])
 exact Wp.ret ⟨rfl,Mx.tch⟩
theorem atom_open_end(hu:u.length≤1000000)(hn2:u.length+5<n)(h0:at? u i=some 40)(m:AltM u n [] (i+1) (.ok (t,j)))(hj:j=u.length):AtomM u n i (.error j):=by
 intro D h hD hx
 obtain⟨D,rfl⟩:∃D',D=D'+1:=⟨D - 1,by omega⟩
 obtain⟨hlt,hc⟩:=at?_some h0
 have hx1:=idxS_nat (l:=u) hlt
 rw[hc] at hx1
 rw[w_ref09_atom]
 refine OutN.gc ?_
 unfold ref09_atom
 have ll:=lenS_nat u
 refine Wp.mnew (Mem.nil [] h) fun h2 M=>?_
 have ho:=alt_call hn2 (h:=h2) m (show 3*(u.length - (i+1))+7≤D by omega) (by rw[M.ex];exact hx)
 repeat(first|((with_reducible refine Wp.lettw ?_ ?_ ?_);omega;omega)|(with_reducible first|refine Wp.lett ?_|(apply Wp.obind;exact hx1))|((with_reducible refine Wp.ift ?_ ?_;apply beq_t);omega)|rw[newP_eq])
 refine Wp.callOk ho M fun c T h3 kt M2=>?_
 refine Wp.obind (extT_0 _ _) (Wp.obind (avAgg_agg _) (Wp.obind (extT_1 _ _ _) (Wp.obind (avInt_int _ _) (Wp.obind (extT_2 _ _ _ _) (Wp.obind (avBool_bool _) ?_)))))
 refine Wp.mnew M2 fun h4 M3=>?_
 refine Wp.sa0 M3 kt.len rfl kt.one fun h5 M4=>?_
 repeat(first|(with_reducible refine Wp.lett ?_)|((with_reducible refine Wp.ift ?_ ?_;apply beq_t);omega)|(with_reducible refine Wp.iff ?_ ?_;exact Bool.not_true))
 refine Wp.sa1 M4 rfl rfl rfl fun h6 M5=>?_
 refine Wp.lr1 M5 rfl ?_
 exact Wp.ret ⟨rfl,M5.tch⟩
theorem atom_group(hu:u.length≤1000000)(hn2:u.length+5<n)(h0:at? u i=some 40)(m:AltM u n [] (i+1) (.ok (t,j)))(hj:j<u.length):AtomM u n i (.ok (t,j+1)):=by
 intro D h hD hx
 obtain⟨D,rfl⟩:∃D',D=D'+1:=⟨D - 1,by omega⟩
 obtain⟨hlt,hc⟩:=at?_some h0
 have hx1:=idxS_nat (l:=u) hlt
 rw[hc] at hx1
 rw[w_ref09_atom]
 refine OutN.gc ?_
 unfold ref09_atom
 have ll:=lenS_nat u
 refine Wp.mnew (Mem.nil [] h) fun h2 M=>?_
 have ho:=alt_call hn2 (h:=h2) m (show 3*(u.length - (i+1))+7≤D by omega) (by rw[M.ex];exact hx)
 repeat(first|((with_reducible refine Wp.lettw ?_ ?_ ?_);omega;omega)|(with_reducible first|refine Wp.lett ?_|(apply Wp.obind;exact hx1))|((with_reducible refine Wp.ift ?_ ?_;apply beq_t);omega)|rw[newP_eq])
 refine Wp.callOk ho M fun c T h3 kt M2=>?_
 refine Wp.obind (extT_0 _ _) (Wp.obind (avAgg_agg _) (Wp.obind (extT_1 _ _ _) (Wp.obind (avInt_int _ _) (Wp.obind (extT_2 _ _ _ _) (Wp.obind (avBool_bool _) ?_)))))
 refine Wp.mnew M2 fun h4 M3=>?_
 refine Wp.sa0 M3 kt.len rfl kt.one fun h5 M4=>?_
 repeat(first|(with_reducible refine Wp.lett ?_)|((with_reducible refine Wp.iff ?_ ?_);first|(with_reducible exact Bool.not_true)|((with_reducible apply beq_f);omega))|rw[newP_eq])
 refine Wp.lr0 M4 kt.len ?_
 repeat(((with_reducible refine Wp.lettw ?_ ?_ ?_);omega;omega))
 refine Wp.sa1 M4 kt.len rfl kt.one fun h6 M5=>?_
 refine Wp.lr1 M5 kt.len ?_
 exact Wp.ret ⟨c,T,by rw[show ((j+1:Nat):Int)=(j:Int)+1 by omega],kt,M5.pop.pop⟩
theorem atom_any(hn:300<n)(hu:u.length≤1000000)(h0:at? u i=some 46):AtomM u n i (.ok (anyN,i+1)):=by
 intro D h hD hx
 obtain⟨D,rfl⟩:∃D',D=D'+1:=⟨D - 1,by omega⟩
 obtain⟨hlt,hc⟩:=at?_some h0
 have hx1:=idxS_nat (l:=u) hlt
 rw[hc] at hx1
 rw[w_ref09_atom]
 refine OutN.gc ?_
 unfold ref09_atom
 have ll:=lenS_nat u
 refine Wp.mnew (Mem.nil [] h) fun h2 M=>?_
 obtain⟨D,rfl⟩:∃D',D=D'+1:=⟨D - 1,by omega⟩
 repeat(first|(with_reducible first|refine Wp.lett ?_|(apply Wp.obind;exact hx1))|((with_reducible refine Wp.ift ?_ ?_;apply beq_t);omega)|((with_reducible refine Wp.iff ?_ ?_;apply beq_f);omega)|rw[newP_eq])
 refine Wp.callN (All_w hn) (Wp.obind (avAgg_agg _) ?_)
 repeat(((with_reducible refine Wp.lettw ?_ ?_ ?_);omega;omega))
 have kt:NodeT anyN (nodeC 2 anyW .nsl) []:=NodeT.leaf 2 anyW_ok
 refine Wp.sa0 M kt.len rfl kt.one fun h5 M4=>?_
 refine Wp.lr0 M4 kt.len ?_
 exact Wp.ret ⟨_,[],by rw[show ((i+1:Nat):Int)=(i:Int)+1 by omega],kt,M4.pop⟩
theorem atom_set(hn:300<n)(hu:u.length≤1000000)(hn2:u.length+5<n)(h0:at? u i=some 91)(m:SetP u (i+1) (.ok (w,j))):AtomM u n i (.ok (.mk 2 w [],j)):=by
 intro D h hD hx
 obtain⟨D,rfl⟩:∃D',D=D'+1:=⟨D - 1,by omega⟩
 obtain⟨hlt,hc⟩:=at?_some h0
 have hx1:=idxS_nat (l:=u) hlt
 rw[hc] at hx1
 rw[w_ref09_atom]
 refine OutN.gc ?_
 unfold ref09_atom
 have ll:=lenS_nat u
 refine Wp.mnew (Mem.nil [] h) fun h2 M=>?_
 obtain⟨D,rfl⟩:∃D',D=D'+2:=⟨D - 2,by omega⟩
 have ho:=class_w (n:=n) (d:=D) (h:=h2) hu hn hn2 (show i+1≤u.length by omega) m
 rw[show ((i+1:Nat):Int)=(i:Int)+1 by omega,set3] at ho
 repeat(first|((with_reducible refine Wp.lettw ?_ ?_ ?_);omega;omega)|(with_reducible first|refine Wp.lett ?_|(apply Wp.obind;first|exact hx1|exact avInt_int _ _|exact avBool_bool _|exact avAgg_agg _|exact extT_0 _ _|exact extT_1 _ _ _|exact extT_2 _ _ _ _))|((with_reducible refine Wp.ift ?_ ?_;apply beq_t);omega)|((with_reducible refine Wp.iff ?_ ?_;apply beq_f);omega)|(with_reducible apply Wp.callN;exact ho)|rw[newP_eq])
 have kt:NodeT (.mk 2 w []) (nodeC 2 w .nsl) []:=NodeT.leaf 2 (setP_words m _ _ rfl)
 refine Wp.sa0 M kt.len rfl kt.one fun h5 M4=>?_
 refine Wp.lr0 M4 kt.len ?_
 exact Wp.ret ⟨_,[],rfl,kt,M4.pop⟩
theorem atom_set_bad(hn:300<n)(hu:u.length≤1000000)(hn2:u.length+5<n)(h0:at? u i=some 91)(m:SetP u (i+1) (.error q)):AtomM u n i (.error q):=by
 intro D h hD hx
 obtain⟨D,rfl⟩:∃D',D=D'+1:=⟨D - 1,by omega⟩
 obtain⟨hlt,hc⟩:=at?_some h0
 have hx1:=idxS_nat (l:=u) hlt
 rw[hc] at hx1
 rw[w_ref09_atom]
 refine OutN.gc ?_
 unfold ref09_atom
 have ll:=lenS_nat u
 refine Wp.mnew (Mem.nil [] h) fun h2 M=>?_
 obtain⟨D,rfl⟩:∃D',D=D'+2:=⟨D - 2,by omega⟩
 have ho:=class_w (n:=n) (d:=D) (h:=h2) hu hn hn2 (show i+1≤u.length by omega) m
 rw[show ((i+1:Nat):Int)=(i:Int)+1 by omega,set3] at ho
 repeat(first|((with_reducible refine Wp.lettw ?_ ?_ ?_);omega;omega)|(with_reducible first|refine Wp.lett ?_|(apply Wp.obind;first|exact hx1|exact avInt_int _ _|exact avBool_bool _|exact avAgg_agg _|exact extT_0 _ _|exact extT_1 _ _ _|exact extT_2 _ _ _ _))|((with_reducible refine Wp.ift ?_ ?_;apply beq_t);omega)|((with_reducible refine Wp.iff ?_ ?_;apply beq_f);omega)|(with_reducible apply Wp.callN;exact ho)|rw[newP_eq])
 refine Wp.sa0 M rfl rfl rfl fun h5 M4=>?_
 refine Wp.lr0 M4 rfl ?_
 exact Wp.ret ⟨rfl,M4.tch⟩
theorem atom_sl_end(hu:u.length≤1000000)(h0:at? u i=some 92)(h1:at? u (i+1)=none):AtomM u n i (.error (i+1)):=by
 intro D h hD hx
 obtain⟨D,rfl⟩:∃D',D=D'+1:=⟨D - 1,by omega⟩
 obtain⟨hlt,hc⟩:=at?_some h0
 have hx1:=idxS_nat (l:=u) hlt
 rw[hc] at hx1
 rw[w_ref09_atom]
 refine OutN.gc ?_
 unfold ref09_atom
 have ll:=lenS_nat u
 refine Wp.mnew (Mem.nil [] h) fun h2 M=>?_
 have he:=at?_none h1 (by omega)
 repeat(first|(with_reducible refine Wp.join1 (fun _ _=>?_))|((with_reducible refine Wp.lettw ?_ ?_ ?_);omega;omega)|(with_reducible first|refine Wp.lett ?_|(apply Wp.obind;exact hx1))|((with_reducible refine Wp.ift ?_ ?_;apply beq_t);omega)|((with_reducible refine Wp.iff ?_ ?_;apply beq_f);omega)|(with_reducible refine Wp.go1 (by assumption) ?_)|rw[newP_eq])
 refine Wp.sa0 M rfl rfl rfl fun h5 M4=>?_
 refine Wp.lr0 M4 rfl ?_
 exact Wp.ret ⟨by rw[show ((i+1:Nat):Int)=(i:Int)+1 by omega];rfl,M4.tch⟩
theorem atom_sl{c:Nat}(hu:u.length≤1000000)(h0:at? u i=some 92)(h1:at? u (i+1)=some c):AtomM u n i (.ok (oneN c,i+2)):=by
 intro D h hD hx
 obtain⟨D,rfl⟩:∃D',D=D'+1:=⟨D - 1,by omega⟩
 obtain⟨hlt,hc⟩:=at?_some h0
 have hx1:=idxS_nat (l:=u) hlt
 rw[hc] at hx1
 rw[w_ref09_atom]
 refine OutN.gc ?_
 unfold ref09_atom
 have ll:=lenS_nat u
 refine Wp.mnew (Mem.nil [] h) fun h2 M=>?_
 obtain⟨hlt1,hc1⟩:=at?_some h1
 have hx2:=idxS_nat (l:=u) hlt1
 rw[hc1,show ((i+1:Nat):Int)=(i:Int)+1 by omega] at hx2
 have hc256:=at?_256 h1
 obtain⟨D,rfl⟩:∃D',D=D'+1:=⟨D - 1,by omega⟩
 repeat(first|(with_reducible refine Wp.join1 (fun _ _=>?_))|((with_reducible refine Wp.lettw ?_ ?_ ?_);omega;omega)|(with_reducible first|refine Wp.lett ?_|(apply Wp.obind;first|exact hx1|exact hx2|exact avAgg_agg _))|((with_reducible refine Wp.ift ?_ ?_;apply beq_t);omega)|((with_reducible refine Wp.iff ?_ ?_;apply beq_f);omega)|(with_reducible first|(apply Wp.callN;exact One_w hc256)|refine Wp.go1 (by assumption) ?_)|rw[newP_eq])
 have kt:NodeT (oneN c) (nodeC 2 (spanW zeroW c 1) .nsl) []:=NodeT.leaf 2 (spanW_ok 1 zeroW_ok c)
 refine Wp.sa0 M kt.len rfl kt.one fun h5 M4=>?_
 refine Wp.lr0 M4 kt.len ?_
 exact Wp.ret ⟨_,[],by rw[show ((i+2:Nat):Int)=(i:Int)+2 by omega],kt,M4.pop⟩
theorem atom_bad{c:Nat}(h0:at? u i=some c)(hb:c=42∨c=43∨c=63∨c=93):AtomM u n i (.error i):=by
 intro D h hD hx
 obtain⟨D,rfl⟩:∃D',D=D'+1:=⟨D - 1,by omega⟩
 obtain⟨hlt,hc⟩:=at?_some h0
 have hx1:=idxS_nat (l:=u) hlt
 rw[hc] at hx1
 rw[w_ref09_atom]
 refine OutN.gc ?_
 unfold ref09_atom
 have ll:=lenS_nat u
 refine Wp.mnew (Mem.nil [] h) fun h2 M=>?_
 rcases hb with rfl|rfl|rfl|rfl
 ·repeat (first | (with_reducible first | refine Wp.join1 (fun _ _ => ?_) | refine Wp.lett ?_ | (apply Wp.obind; exact hx1)) | ((with_reducible refine Wp.ift ?_ ?_); first | (with_reducible rfl) | ((with_reducible apply beq_t); omega)) | ((with_reducible refine Wp.iff ?_ ?_; apply beq_f); omega) | (with_reducible refine Wp.go1 (by assumption) ?_) | rw [newP_eq])
  refine Wp.sa0 M rfl rfl rfl fun h5 M4=>?_
  refine Wp.lr0 M4 rfl ?_
  exact Wp.ret ⟨rfl,M4.tch⟩
 ·repeat (first | (with_reducible first | refine Wp.join1 (fun _ _ => ?_) | refine Wp.lett ?_ | (apply Wp.obind; exact hx1)) | ((with_reducible refine Wp.ift ?_ ?_); first | (with_reducible rfl) | ((with_reducible apply beq_t); omega)) | ((with_reducible refine Wp.iff ?_ ?_; apply beq_f); omega) | (with_reducible refine Wp.go1 (by assumption) ?_) | rw [newP_eq])
  refine Wp.sa0 M rfl rfl rfl fun h5 M4=>?_
  refine Wp.lr0 M4 rfl ?_
  exact Wp.ret ⟨rfl,M4.tch⟩
 ·repeat (first | (with_reducible first | refine Wp.join1 (fun _ _ => ?_) | refine Wp.lett ?_ | (apply Wp.obind; exact hx1)) | ((with_reducible refine Wp.ift ?_ ?_); first | (with_reducible rfl) | ((with_reducible apply beq_t); omega)) | ((with_reducible refine Wp.iff ?_ ?_; apply beq_f); omega) | (with_reducible refine Wp.go1 (by assumption) ?_) | rw [newP_eq])
  refine Wp.sa0 M rfl rfl rfl fun h5 M4=>?_
  refine Wp.lr0 M4 rfl ?_
  exact Wp.ret ⟨rfl,M4.tch⟩
 ·repeat (first | (with_reducible first | refine Wp.join1 (fun _ _ => ?_) | refine Wp.lett ?_ | (apply Wp.obind; exact hx1)) | ((with_reducible refine Wp.ift ?_ ?_; apply beq_t); omega) | ((with_reducible refine Wp.iff ?_ ?_; apply beq_f); omega) | (with_reducible refine Wp.go1 (by assumption) ?_) | rw [newP_eq])
  refine Wp.sa0 M rfl rfl rfl fun h5 M4=>?_
  refine Wp.lr0 M4 rfl ?_
  exact Wp.ret ⟨rfl,M4.tch⟩
theorem atom_one{c:Nat}(hu:u.length≤1000000)(h0:at? u i=some c)(hb:c≠42∧c≠43∧c≠63∧c≠93)(hm:c≠40∧c≠46∧c≠91∧c≠92):AtomM u n i (.ok (oneN c,i+1)):=by
 intro D h hD hx
 obtain⟨D,rfl⟩:∃D',D=D'+1:=⟨D - 1,by omega⟩
 obtain⟨hlt,hc⟩:=at?_some h0
 have hx1:=idxS_nat (l:=u) hlt
 rw[hc] at hx1
 rw[w_ref09_atom]
 refine OutN.gc ?_
 unfold ref09_atom
 have ll:=lenS_nat u
 refine Wp.mnew (Mem.nil [] h) fun h2 M=>?_
 have hc256:=at?_256 h0
 obtain⟨D,rfl⟩:∃D',D=D'+1:=⟨D - 1,by omega⟩
 obtain⟨b1,b2,b3,b4⟩:=hb
 obtain⟨m1,m2,m3,m4⟩:=hm
 have e93:((c:Int) == 93)=false:=beq_f (by omega)
 repeat(first|(with_reducible refine Wp.join1 (fun _ _=>?_))|((with_reducible refine Wp.lettw ?_ ?_ ?_);omega;omega)|(with_reducible first|refine Wp.lett ?_|(apply Wp.obind;first|exact hx1|exact avAgg_agg _))|((with_reducible refine Wp.iff ?_ ?_);first|(with_reducible assumption)|((with_reducible apply beq_f);omega))|(with_reducible first|(apply Wp.callN;exact One_w hc256)|refine Wp.go1 (by assumption) ?_)|rw[newP_eq])
 have kt:NodeT (oneN c) (nodeC 2 (spanW zeroW c 1) .nsl) []:=NodeT.leaf 2 (spanW_ok 1 zeroW_ok c)
 refine Wp.sa0 M kt.len rfl kt.one fun h5 M4=>?_
 refine Wp.lr0 M4 kt.len ?_
 exact Wp.ret ⟨_,[],by rw[show ((i+1:Nat):Int)=(i:Int)+1 by omega],kt,M4.pop⟩
def PartM(u:Bytes)(n i:Nat):Res→Prop
 | .error q=>¬stops u i→AtomM u n i (.error q)
 | .ok (t,j)=>∀l r',¬stops u i→RowM u n (l++[t]) j r'→RowM u n l i r'
mutual
theorem altM(hu:u.length≤1000000)(hn:300<n)(hn2:u.length+5<n):∀{l:List Nd} {i:Nat} {r:Res},AltP u l i r→i≤u.length→AltM u n l i r
 |_,_,_,.bad h,hi=>alt_bad hu hn2 (rowM hu hn hn2 h hi)
 |_,_,_,.last h ne,hi=>alt_last hu hn2 (rowP_bnd h hi).2 (rowM hu hn hn2 h hi) ne hi
 | _, _, _, .more h ne m, hi => alt_more hu hn2 (rowP_bnd h hi).1 (rowM hu hn hn2 h hi) ne hi (altM hu hn hn2 m (by
   obtain⟨hp,_⟩:=at?_some ne
   omega))
termination_by structural _ _ _ x=>x
theorem rowM(hu:u.length≤1000000)(hn:300<n)(hn2:u.length+5<n):∀{l:List Nd} {i:Nat} {r:Res},RowP u l i r→i≤u.length→RowM u n l i r
 |_,_,_,.stop s,hi=>row_stop hi s
 |_,_,_,.bad s h,hi=>row_bad s (partM hu hn hn2 h hi s)
 |l,_,r,.more s h m,hi=>partM hu hn hn2 h hi l r s (rowM hu hn hn2 m (partP_bnd h hi).2)
termination_by structural _ _ _ x=>x
theorem partM(hu:u.length≤1000000)(hn:300<n)(hn2:u.length+5<n):∀{i:Nat} {r:Res},PartP u i r→i≤u.length→PartM u n i r
 |_,_,.bad h,hi=>fun s=>atomM hu hn hn2 h hi s
 |_,_,.bare h n0,hi=>fun _ _ s m=>row_bare hu (atomP_bnd h hi).1 (atomP_bnd h hi).2 hi s (atomM hu hn hn2 h hi s) n0 m
 |_,_,.sign h n0,hi=>fun _ _ s m=>row_sign hu (atomP_bnd h hi).1 hi s (atomM hu hn hn2 h hi s) n0 m
termination_by structural _ _ x=>x
theorem atomM(hu:u.length≤1000000)(hn:300<n)(hn2:u.length+5<n):∀{i:Nat} {r:Res},AtomP u i r→i≤u.length→¬stops u i→AtomM u n i r
 |_,_,.none h,hi,s=>absurd (.inl h) s
 | _, _, .open_bad h m, hi, _ => atom_open_bad hu hn2 h (altM hu hn hn2 m (by
   obtain⟨hp,_⟩:=at?_some h
   omega))
 |_,_,.open_end h m ne,hi,_=>by
  obtain⟨hp,_⟩:=at?_some h
  have e:=(altP_end m _ _ rfl).resolve_right ne
  have hj:=at?_none e (altP_bnd m (by omega)).2
  exact atom_open_end hu hn2 h (altM hu hn hn2 m (by omega)) hj
 |_,_,.group h m ne,hi,_=>by
  obtain⟨hp,_⟩:=at?_some h
  obtain⟨hj,_⟩:=at?_some ne
  exact atom_group hu hn2 h (altM hu hn hn2 m (by omega)) hj
 |_,_,.any h,hi,_=>atom_any hn hu h
 |_,_,.set_bad h m,hi,_=>atom_set_bad hn hu hn2 h m
 |_,_,.set h m,hi,_=>atom_set hn hu hn2 h m
 |_,_,.sl_end h h1,hi,_=>atom_sl_end hu h h1
 |_,_,.sl h h1,hi,_=>atom_sl hu h h1
 | _, _, .bad h hb, hi, s => atom_bad h (by
   unfold badAtom at hb
   rcases hb with hb|hb|hb
   ·exact absurd (.inr (.inl (by rw[h,hb]))) s
   ·exact absurd (.inr (.inr (by rw[h,hb]))) s
   ·exact hb)
 | _, _, .one h hb hm, hi, _ => atom_one hu h (by
   unfold badAtom at hb
   omega) hm
termination_by structural _ _ x=>x
end
end
section
variable {n d i j q:Nat}{h h0 H:AHeap}{u:Bytes}{l:List Nd}{r:Res}{t:Nd}{w:List Nat}{S:List Nat}{c:List AV}{kc:List (List AV)}{kv:AV}{T T0 T1:List RowT}{Q:ARes→AHeap→Prop}
theorem Wp.nodeGrow1{K:AV→AHeap→R}{y:RowT}(M:Mem S h0 h ((y::(T0++T1))++T))(g:GrowT TNode 6 kc kv T0)(ks:KidsT l kc T1)(kt:NodeT t c T)(hex:memB TNode h0.ex=false)(hl:l.length≤1000001)(hk:∀kv' h' T0',GrowT TNode 6 (kc++[c]) kv' T0'→KidsT (l++[t]) (kc++[c]) (T1++T)→Mem S h0 h' (y::(T0'++(T1++T)))→Wp (K kv' h') Q):
  Wp (outK (bldSl Tryd.prog h TNodes 1 [(0,.agg c)]) fun v12 h29=>outK (opAppend Tryd.prog h29 TNodes TNodes kv v12) fun v13 h31=>K v13 h31) Q:=by
 refine Wp.mnews M (kt.bld h) kt.one hex fun h1 M1=>?_
 have M2:Mem S h0 h1 ((h.next,TNode,c)::(y::(T1++T))++T0):=M1.perm (by
  refine List.Perm.cons _ (List.Perm.cons _ ?_)
  show ((T1++T)++T0).Perm ((T0++T1)++T)
  rw[List.append_assoc T0]
  exact List.perm_append_comm)
 have hkl:=ks.len
 refine Wp.grow M2 g (by kernel_rfl) (by kernel_rfl) (by kernel_rfl) (B:=64) (by kernel_rfl) hex kt.len kt.one (by omega) (by omega) fun kv' h' T0' g' M3=>?_
 refine hk kv' h' T0' g' (KidsT.snoc kt ks) (M3.perm ?_)
 exact List.Perm.cons _ List.perm_append_comm
theorem lit_loop{k8:AV→AHeap→R}{z:List AV}(hu:u.length≤1000000)(hx:memB TNode h.ex=false):∀{l:List Nd} {i:Nat} {r:Res},FlatP (partL u) u l i r→i≤u.length→∀{f:Nat} {H:AHeap} {kc:List (List AV)} {kv:AV} {T0 T1:List RowT},u.length - i<f→GrowT TNode 6 kc kv T0→KidsT l kc T1→l.length≤i→Mem [] h H ((h.next,TNode,z)::(T0++T1))→
  (∀l' kc kv T0 T1 H',dropJ r=.ok (joinN 3 l')→GrowT TNode 6 kc kv T0→KidsT l' kc T1→Mem [] h H' ((h.next,TNode,z)::(T0++T1))→Wp (k8 kv H') Q)→
  Wp (ref09_literal_L0 (worldR n (d+1)) u k8 f kv (i:Int) H) Q
 |l,i,_,.stop s,hi,f,H,kc,kv,T0,T1,hf,g,ks,hl,M,hok=>by
  obtain⟨f,rfl⟩:∃f',f=f'+1:=⟨f - 1,by omega⟩
  have ll:=lenS_nat u
  rw[ref09_literal_L0_s]
  unfold ref09_literal_L0b
  repeat(first|(with_reducible refine Wp.lett ?_)|((with_reducible refine Wp.iff ?_ ?_;apply decide_eq_false);omega))
  exact hok _ kc kv T0 T1 H rfl g ks M
 |l,i,_,.bad s hb,_,_,_,_,_,_,_,_,_,_,_,_,_=>by
  unfold partL at hb
  rw[at?_lt s] at hb
  cases hb
 |l,i,r,.more (j:=j) s hb m,hi,f,H,kc,kv,T0,T1,hf,g,ks,hl,M,hok=>by
  obtain⟨f,rfl⟩:∃f',f=f'+1:=⟨f - 1,by omega⟩
  have ll:=lenS_nat u
  unfold partL at hb
  rw[at?_lt s] at hb
  cases hb
  have hx1:=idxS_nat (l:=u) s
  rw[ref09_literal_L0_s]
  unfold ref09_literal_L0b
  repeat(first|(with_reducible first|refine Wp.lett ?_|(apply Wp.obind;first|exact hx1|exact avAgg_agg _))|((with_reducible refine Wp.ift ?_ ?_;apply decide_eq_true);omega)|(with_reducible apply Wp.callN;exact One_w (UInt8.toNat_lt _)))
  have kt:∀c,NodeT (oneN c) (nodeC 2 (spanW zeroW c 1) .nsl) []:=fun c=>NodeT.leaf 2 (spanW_ok 1 zeroW_ok c)
  refine Wp.nodeGrow1 (T:=[]) (by rw[List.append_nil];exact M) g ks (kt _) hx (by omega) fun kv' h' T0' g' ks' M5=>?_
  repeat(((with_reducible refine Wp.lettw ?_ ?_ ?_);omega;omega))
  rw[show (i:Int)+1=((i+1:Nat):Int) by omega]
  exact lit_loop hu hx m (by omega) (by omega) g' ks' (by simp;omega) M5 hok
theorem lit_w(hu:u.length≤1000000)(hn2:u.length<n)(hx:memB TNode h.ex=false)(k:FlatP (partL u) u [] 0 r):∃t c T h',dropJ r=.ok t∧worldR n (d+2) 27 [strA u] h=some (.ret (.agg c),h')∧NodeT t c T∧Mem [] h h' T:=by
 rw[w_ref09_literal]
 have main:∃t c T h',dropJ r=.ok t∧ref09_literal (worldR n (d+1)) n u h=some (.ret (.agg c),h')∧NodeT t c T∧Mem [] h h' T:=by
  suffices hK:Wp (ref09_literal (worldR n (d+1)) n u h) fun v h'=>∃t c T,dropJ r=.ok t∧v=.ret (.agg c)∧NodeT t c T∧Mem [] h h' T by
   obtain⟨_,h',e,t,c,T,h1,rfl,h2,h3⟩:=hK
   exact⟨t,c,T,h',h1,e,h2,h3⟩
  unfold ref09_literal
  refine Wp.mnew (Mem.nil [] h) fun h1 M1=>?_
  ((with_reducible refine Wp.join1 (fun _ _=>?_)))
  rename_i k8 ek8
  refine lit_loop (i:=0) hu hx k (Nat.zero_le _) (by omega) (GrowT.nil _ _) .nil (Nat.le_refl _) M1 fun l' kc kv T0 T1 H' hr g ks M2=>?_
  refine Wp.go1 ek8 ?_
  obtain⟨c,T,h2,e2,kt,M3⟩:=Over_r (n:=n) (d:=d) 3 (xs:=[_]) M2 g ks
  refine Wp.callN e2 (Wp.obind (avAgg_agg _) ?_)
  rw[newP_eq]
  refine Wp.sa0 M3 kt.len rfl kt.one fun h3 M4=>?_
  refine Wp.lr0 M4 kt.len ?_
  exact Wp.ret ⟨_,c,T,hr,rfl,kt,M4.pop⟩
 obtain⟨t,c,T,h',h1,e,kt,M⟩:=main
 suffices hK:Wp (gcR h (ref09_literal (worldR n (d+1)) n u h)) fun r h'=>∃T,r=.ret (.agg c)∧NodeT t c T∧Mem [] h h' T by
  obtain⟨_,h',e,T,rfl,k1,k2⟩:=hK
  exact⟨t,c,T,h',h1,e,k1,k2⟩
 refine Wp.gc2 ⟨_,h',e,⟨T,rfl,kt,M⟩,fun _ hl=>?_⟩
 have hT:T=[]:=kt.low (fun y hy=>(M.row y hy).2.2.resolve_left (by simp)) hl
 subst hT
 exact⟨[],rfl,kt,Mem.nil _ _⟩
theorem glob_loop{k8:AV→AHeap→R}{z:List AV}(hu:u.length≤1000000)(hz:z.length=6)(hn:300<n)(hx:memB TNode h.ex=false):∀{l:List Nd} {i:Nat} {r:Res},FlatP (partG u) u l i r→i≤u.length→∀{f:Nat} {H:AHeap} {kc:List (List AV)} {kv:AV} {T0 T1:List RowT},u.length - i<f→GrowT TNode 6 kc kv T0→KidsT l kc T1→l.length≤i→Mem [] h H ((h.next,TNode,z)::(T0++T1))→
  (∀l' kc kv T0 T1 H',dropJ r=.ok (joinN 3 l')→GrowT TNode 6 kc kv T0→KidsT l' kc T1→Mem [] h H' ((h.next,TNode,z)::(T0++T1))→Wp (k8 kv H') Q)→
  (∀q H',r=.error q→q=u.length→Tch [] h H'→Q (.ret (.tup [.agg (nodeC 0 zeroW .nsl),.bool false])) H')→
  Wp (ref09_glob_L0 (worldR n (d+1)) u h k8 f kv (i:Int) H) Q
 |l,i,_,.stop s,hi,f,H,kc,kv,T0,T1,hf,g,ks,hl,M,hok,hbad=>by
  obtain⟨f,rfl⟩:∃f',f=f'+1:=⟨f - 1,by omega⟩
  have ll:=lenS_nat u
  rw[ref09_glob_L0_s]
  unfold ref09_glob_L0b
  repeat(first|(with_reducible refine Wp.lett ?_)|((with_reducible refine Wp.iff ?_ ?_;apply decide_eq_false);omega))
  exact hok _ kc kv T0 T1 H rfl g ks M
 | l, i, _, .bad (q := q) s hb, hi, f, H, kc, kv, T0, T1, hf, g, ks, hl, M, hok, hbad => by
  obtain⟨f,rfl⟩:∃f',f=f'+1:=⟨f - 1,by omega⟩
  have ll:=lenS_nat u
  have hx1:=idxS_nat (l:=u) s
  unfold partG at hb
  rw[at?_lt s] at hb
  generalize hc:(u[i]).toNat=c at hb hx1
  dsimp only at hb
  split at hb
  ·cases hb
  split at hb
  ·cases hb
  split at hb
  ·rename_i h92
   subst h92
   split at hb
   ·rename_i he
    cases hb
    have hl1:=at?_none he (by omega)
    rw[ref09_glob_L0_s]
    unfold ref09_glob_L0b
    repeat(first|(with_reducible refine Wp.join1 (fun _ _=>?_))|((with_reducible refine Wp.lettw ?_ ?_ ?_);omega;omega)|(with_reducible first|refine Wp.lett ?_|(apply Wp.obind;exact hx1))|((with_reducible refine Wp.ift ?_ ?_);((with_reducible first|apply decide_eq_true|apply beq_t);omega))|(with_reducible refine Wp.go1 (by assumption) ?_)|rw[newP_eq])
    refine Wp.sa0 M rfl hz rfl fun h5 M4=>?_
    refine Wp.lr0 M4 rfl ?_
    exact Wp.ret (hbad _ _ rfl hl1 M4.tch)
   ·cases hb
  ·cases hb
 | l, i, r, .more (j := j) s hb m, hi, f, H, kc, kv, T0, T1, hf, g, ks, hl, M, hok, hbad => by
  obtain⟨f,rfl⟩:∃f',f=f'+1:=⟨f - 1,by omega⟩
  have ll:=lenS_nat u
  have hx1:=idxS_nat (l:=u) s
  have kt:∀c,NodeT (oneN c) (nodeC 2 (spanW zeroW c 1) .nsl) []:=fun c=>NodeT.leaf 2 (spanW_ok 1 zeroW_ok c)
  have kta:NodeT anyN (nodeC 2 anyW .nsl) []:=NodeT.leaf 2 anyW_ok
  have c256:(u[i]).toNat <256:=UInt8.toNat_lt _
  unfold partG at hb
  rw[at?_lt s] at hb
  generalize hc:(u[i]).toNat=c at hb hx1 c256
  dsimp only at hb
  split at hb
  ·rename_i h42
   subst h42
   cases hb
   rw[ref09_glob_L0_s]
   unfold ref09_glob_L0b
   repeat(first|(with_reducible first|(first|refine Wp.join1 (fun _ _=>?_)|refine Wp.join2 (fun _ _=>?_))|refine Wp.lett ?_|(apply Wp.obind;first|exact hx1|exact avAgg_agg _))|((with_reducible refine Wp.ift ?_ ?_);((with_reducible first|apply decide_eq_true|apply beq_t);omega))|((with_reducible refine Wp.iff ?_ ?_);first|(with_reducible rfl)|((with_reducible apply beq_f);omega))|(with_reducible first|(apply Wp.callN;exact All_w hn)|refine Wp.go1 (by assumption) ?_))
   refine Wp.mnews M (kta.bld _) kta.one hx fun h66 M2=>?_
   refine Wp.obind (bldOver1 _ _ _) ?_
   have kt':=signed kta 5 H.next
   have M3:Mem [] h h66 (((h.next,TNode,z)::(T0++T1))++([(H.next,TNode,nodeC 2 anyW .nsl)]++([]++[]))):=M2.perm (by
    rw[List.append_nil,List.append_nil]
    exact List.perm_append_comm)
   refine Wp.nodeGrow1 M3 g ks kt' hx (by omega) fun kv' h' T0' g' ks' M5=>?_
   repeat(first|((with_reducible refine Wp.lettw ?_ ?_ ?_);omega;omega)|(with_reducible first|refine Wp.go1 (by assumption) ?_|refine Wp.go2 (by assumption) ?_))
   rw[show (i:Int)+1=((i+1:Nat):Int) by omega]
   exact glob_loop hu hz hn hx m (by omega) (by omega) g' ks' (by simp;omega) M5 hok hbad
  split at hb
  ·rename_i h63
   subst h63
   cases hb
   rw[ref09_glob_L0_s]
   unfold ref09_glob_L0b
   repeat(first|(with_reducible first|(first|refine Wp.join1 (fun _ _=>?_)|refine Wp.join2 (fun _ _=>?_))|refine Wp.lett ?_|(apply Wp.obind;first|exact hx1|exact avAgg_agg _))|((with_reducible refine Wp.ift ?_ ?_);((with_reducible first|apply decide_eq_true|apply beq_t);omega))|((with_reducible refine Wp.iff ?_ ?_);first|(with_reducible rfl)|((with_reducible apply beq_f);omega))|(with_reducible first|(apply Wp.callN;exact All_w hn)|refine Wp.go1 (by assumption) ?_))
   refine Wp.nodeGrow1 (T:=[]) (by rw[List.append_nil];exact M) g ks kta hx (by omega) fun kv' h' T0' g' ks' M5=>?_
   repeat(first|((with_reducible refine Wp.lettw ?_ ?_ ?_);omega;omega)|(with_reducible first|refine Wp.go1 (by assumption) ?_|refine Wp.go2 (by assumption) ?_))
   rw[show (i:Int)+1=((i+1:Nat):Int) by omega]
   exact glob_loop hu hz hn hx m (by omega) (by omega) g' ks' (by simp;omega) M5 hok hbad
  split at hb
  ·rename_i h92
   subst h92
   split at hb
   ·cases hb
   ·rename_i e he
    cases hb
    obtain⟨hl1,he1⟩:=at?_some he
    have e256:=at?_256 he
    have hx2:=idxS_nat (l:=u) hl1
    rw[he1,show ((i+1:Nat):Int)=(i:Int)+1 by omega] at hx2
    rw[ref09_glob_L0_s]
    unfold ref09_glob_L0b
    repeat(first|(with_reducible first|refine Wp.join1 (fun _ _=>?_)|refine Wp.join2 (fun _ _=>?_))|((with_reducible refine Wp.lettw ?_ ?_ ?_);omega;omega)|(with_reducible first|refine Wp.lett ?_|(apply Wp.obind;first|exact hx1|exact hx2|exact avAgg_agg _))|((with_reducible refine Wp.ift ?_ ?_);((with_reducible first|apply decide_eq_true|apply beq_t);omega))|((with_reducible refine Wp.iff ?_ ?_;apply beq_f);omega)|(with_reducible first|(apply Wp.callN;exact One_w e256)|refine Wp.go1 (by assumption) ?_))
    refine Wp.nodeGrow1 (T:=[]) (by rw[List.append_nil];exact M) g ks (kt _) hx (by omega) fun kv' h' T0' g' ks' M5=>?_
    repeat(first|((with_reducible refine Wp.lettw ?_ ?_ ?_);omega;omega)|(with_reducible refine Wp.go2 (by assumption) ?_))
    rw[show (i:Int)+1+1=((i+2:Nat):Int) by omega]
    exact glob_loop hu hz hn hx m (by omega) (by omega) g' ks' (by simp;omega) M5 hok hbad
  ·cases hb
   rw[ref09_glob_L0_s]
   unfold ref09_glob_L0b
   repeat(first|(with_reducible first|(first|refine Wp.join1 (fun _ _=>?_)|refine Wp.join2 (fun _ _=>?_))|refine Wp.lett ?_|(apply Wp.obind;first|exact hx1|exact avAgg_agg _))|((with_reducible refine Wp.ift ?_ ?_);((with_reducible first|apply decide_eq_true|apply beq_t);omega))|((with_reducible refine Wp.iff ?_ ?_);first|(with_reducible rfl)|((with_reducible apply beq_f);omega))|(with_reducible first|(apply Wp.callN;exact One_w c256)|refine Wp.go1 (by assumption) ?_))
   refine Wp.nodeGrow1 (T:=[]) (by rw[List.append_nil];exact M) g ks (kt _) hx (by omega) fun kv' h' T0' g' ks' M5=>?_
   repeat(first|((with_reducible refine Wp.lettw ?_ ?_ ?_);omega;omega)|(with_reducible first|refine Wp.go1 (by assumption) ?_|refine Wp.go2 (by assumption) ?_))
   rw[show (i:Int)+1=((i+1:Nat):Int) by omega]
   exact glob_loop hu hz hn hx m (by omega) (by omega) g' ks' (by simp;omega) M5 hok hbad
def OutG(h:AHeap)(x:R)(u:Bytes):Except Nat Nd→Prop
 | .ok t=>∃c T h',x=some (.ret (.tup [.agg c,.bool true]),h')∧NodeT t c T∧Mem [] h h' T
 | .error q=>q=u.length∧x=some (.ret (.tup [.agg (nodeC 0 zeroW .nsl),.bool false]),h)
def RawG(h:AHeap)(u:Bytes):Except Nat Nd→ARes→AHeap→Prop
 | .ok t,v,h'=>∃c T,v=.ret (.tup [.agg c,.bool true])∧NodeT t c T∧Mem [] h h' T
 | .error q,v,h'=>q=u.length∧v=.ret (.tup [.agg (nodeC 0 zeroW .nsl),.bool false])∧Tch [] h h'
theorem OutG.gc{r:Except Nat Nd}{x:R}(k:Wp x (RawG h u r)):OutG h (gcR h x) u r:=by
 cases r with
 |error q=>
  obtain⟨v,h',e,hq,e2,t⟩:=k
  refine⟨hq,?_⟩
  apply Wp.eq
  exact Wp.gc ⟨v,h',e,t.above,by rw[e2];rfl,e2,rfl⟩
 | ok t =>
  obtain⟨v,h',e,c,T,rfl,kt,M⟩:=k
  suffices hK:Wp (gcR h x) fun r h'=>∃T,r=.ret (.tup [.agg c,.bool true])∧NodeT t c T∧Mem [] h h' T by
   obtain⟨_,h',e,T,rfl,k1,k2⟩:=hK
   exact⟨c,T,h',e,k1,k2⟩
  refine Wp.gc2 ⟨_,h',e,⟨T,rfl,kt,M⟩,fun _ hl=>?_⟩
  have h1:AV.loL h.next c=true:=by
   have:(AV.loL h.next c&&(true&&AV.loL h.next []))=true:=hl
   rw[Bool.and_eq_true] at this
   exact this.1
  have hT:T=[]:=kt.low (fun y hy=>(M.row y hy).2.2.resolve_left (by simp)) h1
  subst hT
  exact⟨[],rfl,kt,Mem.nil _ _⟩
theorem glob_w(hu:u.length≤1000000)(hn:300<n)(hn2:u.length<n)(hx:memB TNode h.ex=false)(k:FlatP (partG u) u [] 0 r):OutG h (worldR n (d+2) 28 [strA u] h) u (dropJ r):=by
 rw[w_ref09_glob]
 refine OutG.gc ?_
 unfold ref09_glob
 refine Wp.mnew (Mem.nil [] h) fun h1 M1=>?_
 ((with_reducible refine Wp.join1 (fun _ _=>?_)))
 rename_i k8 ek8
 refine glob_loop (i:=0) hu rfl hn hx k (Nat.zero_le _) (by omega) (GrowT.nil _ _) .nil (Nat.le_refl _) M1 (fun l' kc kv T0 T1 H' hr g ks M2=>?_) fun q H' hr hq ht=>?_
 ·refine Wp.go1 ek8 ?_
  obtain⟨c,T,h2,e2,kt,M3⟩:=Over_r (n:=n) (d:=d) 3 (xs:=[_]) M2 g ks
  refine Wp.callN e2 (Wp.obind (avAgg_agg _) ?_)
  rw[newP_eq]
  refine Wp.sa0 M3 kt.len rfl kt.one fun h3 M4=>?_
  refine Wp.lr0 M4 kt.len ?_
  rw[hr]
  exact Wp.ret ⟨c,T,rfl,kt,M4.pop⟩
 ·subst hr
  exact⟨hq,rfl,ht⟩
end
def OutT(h:AHeap)(x:R):Except Nat Nd→Prop
 | .ok t=>∃c T h',x=some (.ret (.tup [.agg c,.agg [.int .i64 0,.int .i64 0]]),h')∧NodeT t c T∧Mem [] h h' T
 | .error q=>x=some (.ret (.tup [.agg (nodeC 0 zeroW .nsl),.agg [.int .i64 6,.int .i64 (q:Int)]]),h)
def RawT(h:AHeap):Except Nat Nd→ARes→AHeap→Prop
 | .ok t,v,h'=>∃c T,v=.ret (.tup [.agg c,.agg [.int .i64 0,.int .i64 0]])∧NodeT t c T∧Mem [] h h' T
 | .error q,v,h'=>v=.ret (.tup [.agg (nodeC 0 zeroW .nsl),.agg [.int .i64 6,.int .i64 (q:Int)]])∧Tch [] h h'
section
variable {n d:Nat}{h:AHeap}{u:Bytes}
theorem OutT.gc{r:Except Nat Nd}{x:R}(k:Wp x (RawT h r)):OutT h (gcR h x) r:=by
 cases r with
 |error q=>
  apply Wp.eq
  exact Wp.gc (k.mono fun v h' ⟨e,t⟩=>⟨t.above,by rw[e];rfl,e,rfl⟩)
 | ok t =>
  obtain⟨v,h',e,c,T,rfl,kt,M⟩:=k
  suffices hK:Wp (gcR h x) fun r h'=>∃T,r=.ret (.tup [.agg c,.agg [.int .i64 0,.int .i64 0]])∧NodeT t c T∧Mem [] h h' T by
   obtain⟨_,h',e,T,rfl,k1,k2⟩:=hK
   exact⟨c,T,h',e,k1,k2⟩
  refine Wp.gc2 ⟨_,h',e,⟨T,rfl,kt,M⟩,fun _ hl=>?_⟩
  have h1:AV.loL h.next c=true:=by
   have:(AV.loL h.next c&&(AV.loL h.next [.int .i64 0,.int .i64 0]&&AV.loL h.next []))=true:=hl
   rw[Bool.and_eq_true] at this
   exact this.1
  have hT:T=[]:=kt.low (fun y hy=>(M.row y hy).2.2.resolve_left (by simp)) h1
  subst hT
  exact⟨[],rfl,kt,Mem.nil _ _⟩
theorem badT_w(q:Int):worldR n (d+1) 29 [.int .i64 q] h=some (.ret (.agg [.int .i64 6,.int .i64 q]),h):=by
 apply Wp.eq
 rw[w_ref09_bad]
 refine Wp.gc ?_
 unfold ref09_bad
 have Mx:=Mem.nil [] h
 repeat(first|((with_reducible apply Wp.lr0 Mx);rfl)|((with_reducible apply Wp.sa0 Mx);rfl;rfl;(rfl);clear Mx;intro _ Mx)|((with_reducible apply Wp.mnew Mx);clear Mx;intro _ Mx)|rw[newP_eq])
 exact Wp.ret ⟨Mx.tch.above,rfl,rfl,rfl⟩
theorem rTree_other{k:Int}(h1:k≠1)(h2:k≠2)(h3:k≠3):worldR n (d+1) 13 [.agg [.int .i64 k,strA u]] h=some (.ret (.tup [.agg (nodeC 0 zeroW .nsl),.agg [.int .i64 2,.int .i64 0]]),h):=by
 apply Wp.eq
 rw[w_ref09_Tree]
 refine Wp.gc ?_
 suffices hK:Wp (ref09_Tree (worldR n d) n [.int .i64 k,strA u] h) fun r h'=>r=.ret (.tup [.agg (nodeC 0 zeroW .nsl),.agg [.int .i64 2,.int .i64 0]])∧Tch [] h h' from hK.mono fun r h' ⟨e,t⟩=>⟨t.above,by rw[e];rfl,e,rfl⟩
 unfold ref09_Tree
 have Mx:=Mem.nil [] h
 repeat(first|(with_reducible apply Wp.obind;first|exact avInt_int _ _|exact fldP_ptr _ _ _)|((with_reducible apply Wp.lr0 Mx);rfl)|((with_reducible apply Wp.sa0 Mx);rfl;rfl;(rfl);clear Mx;intro _ Mx)|((with_reducible apply Wp.lr1 Mx);rfl)|((with_reducible apply Wp.sa1 Mx);rfl;rfl;(rfl);clear Mx;intro _ Mx)|((with_reducible apply Wp.ld2 Mx);rfl)|((with_reducible apply Wp.mnew Mx);clear Mx;intro _ Mx)|((with_reducible apply Wp.mbox Mx);(rfl);clear Mx;intro _ Mx)|(with_reducible first|refine Wp.join1 (fun _ _=>?_)|refine Wp.lett ?_)|((with_reducible refine Wp.ift ?_ ?_;apply bne_t);omega)|(with_reducible refine Wp.go1 (by assumption) ?_)|rw[newP_eq])
 exact Wp.ret ⟨rfl,Mx.tch⟩
theorem rTree_long(l:64<u.length){kind:Int}(hk:kind=1∨kind=2∨kind=3):worldR n (d+1) 13 [.agg [.int .i64 kind,strA u]] h=some (.ret (.tup [.agg (nodeC 0 zeroW .nsl),.agg [.int .i64 3,.int .i64 64]]),h):=by
 rcases hk with rfl|rfl|rfl
 ·apply Wp.eq
  rw[w_ref09_Tree]
  refine Wp.gc ?_
  suffices hK:Wp (ref09_Tree (worldR n d) n [.int .i64 1,strA u] h) fun r h'=>r=.ret (.tup [.agg (nodeC 0 zeroW .nsl),.agg [.int .i64 3,.int .i64 64]])∧Tch [] h h' from hK.mono fun r h' ⟨e,t⟩=>⟨t.above,by rw[e];rfl,e,rfl⟩
  unfold ref09_Tree
  have ll:=lenS_nat u
  have Mx:=Mem.nil [] h
  repeat(first|(with_reducible apply Wp.obind;first|exact avInt_int _ _|exact avStr_str _|exact fldP_ptr _ _ _)|((with_reducible apply Wp.lr0 Mx);rfl)|((with_reducible apply Wp.sa0 Mx);rfl;rfl;(rfl);clear Mx;intro _ Mx)|((with_reducible apply Wp.lr1 Mx);rfl)|((with_reducible apply Wp.sa1 Mx);rfl;rfl;(rfl);clear Mx;intro _ Mx)|((with_reducible apply Wp.ld2 Mx);rfl)|((with_reducible apply Wp.mnew Mx);clear Mx;intro _ Mx)|((with_reducible apply Wp.mbox Mx);(rfl);clear Mx;intro _ Mx)|(with_reducible first|refine Wp.join1 (fun _ _=>?_)|refine Wp.lett ?_)|((with_reducible refine Wp.ift ?_ ?_);((with_reducible first|apply decide_eq_true|apply bne_t);omega))|((with_reducible refine Wp.iff ?_ ?_);first|(with_reducible rfl)|((with_reducible apply bne_f);omega))|(with_reducible refine Wp.go1 (by assumption) ?_)|rw[newP_eq])
  exact Wp.ret ⟨rfl,Mx.tch⟩
 ·apply Wp.eq
  rw[w_ref09_Tree]
  refine Wp.gc ?_
  suffices hK:Wp (ref09_Tree (worldR n d) n [.int .i64 2,strA u] h) fun r h'=>r=.ret (.tup [.agg (nodeC 0 zeroW .nsl),.agg [.int .i64 3,.int .i64 64]])∧Tch [] h h' from hK.mono fun r h' ⟨e,t⟩=>⟨t.above,by rw[e];rfl,e,rfl⟩
  unfold ref09_Tree
  have ll:=lenS_nat u
  have Mx:=Mem.nil [] h
  repeat(first|(with_reducible apply Wp.obind;first|exact avInt_int _ _|exact avStr_str _|exact fldP_ptr _ _ _)|((with_reducible apply Wp.lr0 Mx);rfl)|((with_reducible apply Wp.sa0 Mx);rfl;rfl;(rfl);clear Mx;intro _ Mx)|((with_reducible apply Wp.lr1 Mx);rfl)|((with_reducible apply Wp.sa1 Mx);rfl;rfl;(rfl);clear Mx;intro _ Mx)|((with_reducible apply Wp.ld2 Mx);rfl)|((with_reducible apply Wp.mnew Mx);clear Mx;intro _ Mx)|((with_reducible apply Wp.mbox Mx);(rfl);clear Mx;intro _ Mx)|(with_reducible first|refine Wp.join1 (fun _ _=>?_)|refine Wp.lett ?_)|((with_reducible refine Wp.ift ?_ ?_);((with_reducible first|apply decide_eq_true|apply bne_t);omega))|((with_reducible refine Wp.iff ?_ ?_);first|(with_reducible rfl)|((with_reducible apply bne_f);omega))|(with_reducible refine Wp.go1 (by assumption) ?_)|rw[newP_eq])
  exact Wp.ret ⟨rfl,Mx.tch⟩
 ·apply Wp.eq
  rw[w_ref09_Tree]
  refine Wp.gc ?_
  suffices hK:Wp (ref09_Tree (worldR n d) n [.int .i64 3,strA u] h) fun r h'=>r=.ret (.tup [.agg (nodeC 0 zeroW .nsl),.agg [.int .i64 3,.int .i64 64]])∧Tch [] h h' from hK.mono fun r h' ⟨e,t⟩=>⟨t.above,by rw[e];rfl,e,rfl⟩
  unfold ref09_Tree
  have ll:=lenS_nat u
  have Mx:=Mem.nil [] h
  repeat(first|(with_reducible apply Wp.obind;first|exact avInt_int _ _|exact avStr_str _|exact fldP_ptr _ _ _)|((with_reducible apply Wp.lr0 Mx);rfl)|((with_reducible apply Wp.sa0 Mx);rfl;rfl;(rfl);clear Mx;intro _ Mx)|((with_reducible apply Wp.lr1 Mx);rfl)|((with_reducible apply Wp.sa1 Mx);rfl;rfl;(rfl);clear Mx;intro _ Mx)|((with_reducible apply Wp.ld2 Mx);rfl)|((with_reducible apply Wp.mnew Mx);clear Mx;intro _ Mx)|((with_reducible apply Wp.mbox Mx);(rfl);clear Mx;intro _ Mx)|(with_reducible first|refine Wp.join1 (fun _ _=>?_)|refine Wp.lett ?_)|((with_reducible refine Wp.ift ?_ ?_);((with_reducible first|apply decide_eq_true|apply bne_t);omega))|((with_reducible refine Wp.iff ?_ ?_;apply bne_f);omega)|(with_reducible refine Wp.go1 (by assumption) ?_)|rw[newP_eq])
  exact Wp.ret ⟨rfl,Mx.tch⟩
theorem rTree_ok(hl:u.length≤64)(hn:300<n){k:Int}{r:Except Nat Nd}(tp:TreeP u k r){D:Nat}(hD:300≤D)(hx:memB TNode h.ex=false):OutT h (worldR n (D+1) 13 [.agg [.int .i64 k,strA u]] h) r:=by
 rw[w_ref09_Tree]
 refine OutT.gc ?_
 unfold ref09_Tree
 have ll:=lenS_nat u
 have Mx:=Mem.nil [] h
 obtain⟨D,rfl⟩:∃D',D=D'+2:=⟨D - 2,by omega⟩
 have fin3:∀{t:Nd} {j:Nat},AltP u [] 0 (.ok (t,j))→∀{H:AHeap},memB TNode H.ex=false→OutN H (worldR n (D+2) 30 [strA u,.int .i64 ((0:Nat):Int)] H) (.ok (t,j)):=fun a H hH=>alt_call (by omega) (altM (by omega) hn (by omega) a (Nat.zero_le _)) (by omega) hH
 cases tp with
 |lit a=>
  repeat(first|(with_reducible apply Wp.obind;first|exact avInt_int _ _|exact avStr_str _|exact fldP_ptr _ _ _)|((with_reducible apply Wp.ld2 Mx);rfl)|((with_reducible apply Wp.mnew Mx);clear Mx;intro _ Mx)|((with_reducible apply Wp.mbox Mx);(rfl);clear Mx;intro _ Mx)|(with_reducible first|refine Wp.join1 (fun _ _=>?_)|refine Wp.lett ?_)|((with_reducible refine Wp.ift ?_ ?_);((with_reducible first|apply decide_eq_true|apply bne_t|apply beq_t);omega))|((with_reducible refine Wp.iff ?_ ?_);first|(with_reducible rfl)|((with_reducible first|apply decide_eq_false|apply bne_f);omega))|(with_reducible refine Wp.go1 (by assumption) ?_)|rw[newP_eq])
  obtain⟨t,c,T,H',hr,e,kt,M2⟩:=lit_w (n:=n) (d:=D) (by omega) (by omega) (by rw[Mx.ex];exact hx) a
  refine Wp.callN e (Wp.obind (avAgg_agg _) ?_)
  have M3:=Mem.frameT (xs:=[]) (ys:=[]) Mx M2
  refine Wp.sa1 M3 kt.len rfl kt.one fun _ M4=>?_
  refine Wp.sa0 M4 rfl rfl rfl fun _ M5=>?_
  refine Wp.lr1 M5 kt.len (Wp.lr0 M5 rfl ?_)
  rw[hr]
  exact Wp.ret ⟨c,T,rfl,kt,M5.pop.pop.pop⟩
 | glob a =>
  repeat(first|(with_reducible apply Wp.obind;first|exact avInt_int _ _|exact avStr_str _|exact fldP_ptr _ _ _)|((with_reducible apply Wp.ld2 Mx);rfl)|((with_reducible apply Wp.mnew Mx);clear Mx;intro _ Mx)|((with_reducible apply Wp.mbox Mx);(rfl);clear Mx;intro _ Mx)|(with_reducible first|refine Wp.join1 (fun _ _=>?_)|refine Wp.lett ?_)|((with_reducible refine Wp.ift ?_ ?_);((with_reducible first|apply decide_eq_true|apply bne_t|apply beq_t);omega))|((with_reducible refine Wp.iff ?_ ?_);first|(with_reducible rfl)|((with_reducible first|apply decide_eq_false|apply bne_f|apply beq_f);omega))|(with_reducible refine Wp.go1 (by assumption) ?_)|rw[newP_eq])
  have og:=glob_w (n:=n) (d:=D) (by omega) hn (by omega) (by rw[Mx.ex];exact hx) a
  generalize dropJ _=r' at og
  cases r' with
  |error q=>
   obtain⟨hq,e⟩:=og
   subst hq
   refine Wp.callN e ?_
   repeat(first|(with_reducible apply Wp.obind;first|exact avBool_bool _|exact avStr_str _|exact fldP_ptr _ _ _)|((with_reducible apply Wp.sa0 Mx);rfl;rfl;(rfl);clear Mx;intro _ Mx)|((with_reducible apply Wp.lr1 Mx);rfl)|((with_reducible apply Wp.sa1 Mx);rfl;rfl;(rfl);clear Mx;intro _ Mx)|((with_reducible apply Wp.lr2 Mx);rfl)|((with_reducible apply Wp.sa2 Mx);rfl;rfl;(rfl);clear Mx;intro _ Mx)|((with_reducible apply Wp.ld3 Mx);rfl)|((with_reducible apply Wp.mnew Mx);clear Mx;intro _ Mx)|(with_reducible first|refine Wp.lett ?_|(apply Wp.obind;first|exact avAgg_agg _|exact extT_0 _ _|exact extT_1 _ _ _)|(refine Wp.ift ?_ ?_;exact Bool.not_false)|(apply Wp.callN;exact badT_w _))|rw[newP_eq])
   exact Wp.ret ⟨rfl,Mx.tch⟩
  |ok t=>
   obtain⟨c,T,H',e,kt,M2⟩:=og
   refine Wp.callN e ?_
   have M3:=Mem.frameT (xs:=[]) (ys:=[]) Mx M2
   refine Wp.obind (extT_0 _ _) (Wp.obind (avAgg_agg _) (Wp.obind (extT_1 _ _ _) (Wp.obind (avBool_bool _) ?_)))
   refine Wp.mnew M3 fun h4 M4=>?_
   rw[newP_eq]
   refine Wp.sa0 M4 kt.len rfl kt.one fun h5 M5=>?_
   refine Wp.lett (Wp.iff rfl ?_)
   refine Wp.lr0 M5 kt.len ?_
   refine Wp.sa2 M5 kt.len rfl kt.one fun _ M6=>?_
   refine Wp.sa1 M6 rfl rfl rfl fun _ M7=>?_
   refine Wp.lr2 M7 kt.len (Wp.lr1 M7 rfl ?_)
   exact Wp.ret ⟨c,T,rfl,kt,M7.pop.pop.pop.pop⟩
 |re_bad a=>
  repeat(first|(with_reducible apply Wp.obind;first|exact avInt_int _ _|exact avStr_str _|exact fldP_ptr _ _ _)|((with_reducible apply Wp.ld2 Mx);rfl)|((with_reducible apply Wp.mnew Mx);clear Mx;intro _ Mx)|((with_reducible apply Wp.mbox Mx);(rfl);clear Mx;intro _ Mx)|(with_reducible first|refine Wp.join1 (fun _ _=>?_)|refine Wp.lett ?_)|((with_reducible refine Wp.ift ?_ ?_);((with_reducible first|apply decide_eq_true|apply bne_t|apply beq_t);omega))|((with_reducible refine Wp.iff ?_ ?_);((with_reducible first|apply decide_eq_false|apply bne_f|apply beq_f);omega))|(with_reducible refine Wp.go1 (by assumption) ?_)|rw[newP_eq])
  have oa:=alt_call (n:=n) (D:=D+2) (by omega) (altM (by omega) hn (by omega) a (Nat.zero_le _)) (by omega) (show memB TNode _=false by rw[Mx.ex];exact hx)
  refine Wp.callBad oa ?_
  repeat(first|(with_reducible apply Wp.obind;first|exact avInt_int _ _|exact avBool_bool _)|((with_reducible apply Wp.sa0 Mx);rfl;rfl;(rfl);clear Mx;intro _ Mx)|((with_reducible apply Wp.lr1 Mx);rfl)|((with_reducible apply Wp.sa1 Mx);rfl;rfl;(rfl);clear Mx;intro _ Mx)|((with_reducible apply Wp.lr2 Mx);rfl)|((with_reducible apply Wp.sa2 Mx);rfl;rfl;(rfl);clear Mx;intro _ Mx)|((with_reducible apply Wp.mnew Mx);clear Mx;intro _ Mx)|(with_reducible first|refine Wp.join1 (fun _ _=>?_)|refine Wp.lett ?_|(apply Wp.obind;first|exact avAgg_agg _|exact extT_0 _ _|exact extT_1 _ _ _|exact extT_2 _ _ _ _)|(refine Wp.ift ?_ ?_;first|rfl|exact Bool.not_false)|(apply Wp.callN;exact badT_w _)|refine Wp.go1 (by assumption) ?_)|rw[newP_eq])
  exact Wp.ret ⟨rfl,Mx.tch⟩
 |re_end a ne=>
  rename_i t j
  obtain⟨_,bj⟩:=altP_bnd a (Nat.zero_le _)
  repeat(first|(with_reducible apply Wp.obind;first|exact avInt_int _ _|exact avStr_str _|exact fldP_ptr _ _ _)|((with_reducible apply Wp.ld2 Mx);rfl)|((with_reducible apply Wp.mnew Mx);clear Mx;intro _ Mx)|((with_reducible apply Wp.mbox Mx);(rfl);clear Mx;intro _ Mx)|(with_reducible first|refine Wp.join1 (fun _ _=>?_)|refine Wp.lett ?_)|((with_reducible refine Wp.ift ?_ ?_);((with_reducible first|apply decide_eq_true|apply bne_t|apply beq_t);omega))|((with_reducible refine Wp.iff ?_ ?_);((with_reducible first|apply decide_eq_false|apply bne_f|apply beq_f);omega))|(with_reducible refine Wp.go1 (by assumption) ?_)|rw[newP_eq])
  refine Wp.callOk (fin3 a (by rw[Mx.ex];exact hx)) Mx fun c T h3 kt M3=>?_
  refine Wp.obind (extT_0 _ _) (Wp.obind (avAgg_agg _) (Wp.obind (extT_1 _ _ _) (Wp.obind (avInt_int _ _) (Wp.obind (extT_2 _ _ _ _) (Wp.obind (avBool_bool _) ?_)))))
  refine Wp.mnew M3 fun h4 M4=>?_
  rw[newP_eq]
  refine Wp.sa0 M4 kt.len rfl kt.one fun h5 M5=>?_
  clear Mx
  have Mx:=M5
  repeat(first|(with_reducible apply Wp.obind;first|exact avStr_str _|exact fldP_ptr _ _ _)|((with_reducible apply Wp.lr1 Mx);rfl)|((with_reducible apply Wp.sa1 Mx);rfl;rfl;(rfl);clear Mx;intro _ Mx)|((with_reducible apply Wp.lr2 Mx);rfl)|((with_reducible apply Wp.sa2 Mx);rfl;rfl;(rfl);clear Mx;intro _ Mx)|((with_reducible apply Wp.ld3 Mx);rfl)|(with_reducible first|refine Wp.join1 (fun _ _=>?_)|refine Wp.lett ?_|(apply Wp.obind;exact avAgg_agg _))|((with_reducible refine Wp.ift ?_ ?_;apply decide_eq_true);omega)|(with_reducible first|(refine Wp.iff ?_ ?_;exact Bool.not_true)|(apply Wp.callN;exact badT_w _)|refine Wp.go1 (by assumption) ?_))
  exact Wp.ret ⟨rfl,Mx.tch⟩
 |re a=>
  repeat(first|(with_reducible apply Wp.obind;first|exact avInt_int _ _|exact avStr_str _|exact fldP_ptr _ _ _)|((with_reducible apply Wp.ld2 Mx);rfl)|((with_reducible apply Wp.mnew Mx);clear Mx;intro _ Mx)|((with_reducible apply Wp.mbox Mx);(rfl);clear Mx;intro _ Mx)|(with_reducible first|refine Wp.join1 (fun _ _=>?_)|refine Wp.lett ?_)|((with_reducible refine Wp.ift ?_ ?_);((with_reducible first|apply decide_eq_true|apply bne_t|apply beq_t);omega))|((with_reducible refine Wp.iff ?_ ?_);((with_reducible first|apply decide_eq_false|apply bne_f|apply beq_f);omega))|(with_reducible refine Wp.go1 (by assumption) ?_)|rw[newP_eq])
  refine Wp.callOk (fin3 a (by rw[Mx.ex];exact hx)) Mx fun c T h3 kt M3=>?_
  refine Wp.obind (extT_0 _ _) (Wp.obind (avAgg_agg _) (Wp.obind (extT_1 _ _ _) (Wp.obind (avInt_int _ _) (Wp.obind (extT_2 _ _ _ _) (Wp.obind (avBool_bool _) ?_)))))
  refine Wp.mnew M3 fun h4 M4=>?_
  rw[newP_eq]
  refine Wp.sa0 M4 kt.len rfl kt.one fun h5 M5=>?_
  clear Mx
  have Mx:=M5
  clear M5
  repeat(first|(with_reducible apply Wp.obind;first|exact avStr_str _|exact fldP_ptr _ _ _)|((with_reducible apply Wp.ld3 Mx);rfl)|(with_reducible first|refine Wp.join1 (fun _ _=>?_)|refine Wp.lett ?_)|((with_reducible refine Wp.iff ?_ ?_);first|(with_reducible exact Bool.not_true)|((with_reducible apply decide_eq_false);omega))|(with_reducible refine Wp.go1 (by assumption) ?_))
  refine Wp.lr0 Mx kt.len ?_
  refine Wp.sa2 Mx kt.len rfl kt.one fun _ M6=>?_
  refine Wp.sa1 M6 rfl rfl rfl fun _ M7=>?_
  refine Wp.lr2 M7 kt.len (Wp.lr1 M7 rfl ?_)
  exact Wp.ret ⟨c,T,rfl,kt,M7.pop.pop.pop.pop⟩
end
noncomputable def law10_NfaMatches(call:CallF)(_:Nat)(t0:List AV)(t1:Bytes)(h:AHeap):R:=
 outK (opBox h 23 (some (.agg t0))) fun v2 h_2=>
 callN (call 11 [] h_2) fun r9 h_6=>
 obind (avBool r9) fun t9=>
 lett (!t9) fun (t10:Bool)=>
 ifB t10
 (
  some (.ret (.bool false),h_6))
 (
  obind (ldRow h_6 2 v2) fun t12=>
  callN (call 12 [.agg t12] h_6) fun r13 h_13=>
  obind (extT 0 r13) fun v14=>
  obind (extT 1 r13) fun v15=>
  obind (avInt .i64 v15) fun t15=>
  obind (ldRow h_13 2 v2) fun t17=>
  callN (call 13 [.agg t17] h_13) fun r18 h_20=>
  obind (extT 0 r18) fun v19=>
  obind (avAgg v19) fun t19=>
  obind (extT 1 r18) fun v20=>
  obind (avAgg v20) fun t20=>
  lett (newH h_20 34 [.int .i64 0,.int .u64 0,.int .u64 0,.int .u64 0,.int .u64 0,.nsl]) fun h_26=>
  lett (newH h_26 36 [.int .i64 0,.int .i64 0]) fun h_28=>
  obind (stRow h_28 6 t19 (newP h_20)) fun h_30=>
  obind (stRow h_30 2 t20 (newP h_26)) fun h_32=>
  obind (ldCell h_32 (AV.ptr (AHeap.next h_26) 0)) fun v22=>
  obind (avInt .i64 v22) fun t22=>
  lett ((t22:Int) != 0) fun (t23:Bool)=>
  ifB t23
  (
   lett ((t15:Int) == 2) fun (t25:Bool)=>
   lett (fun (t29:Bool) (h_41:AHeap)=>
    some (.ret (.bool t29),h_41)) fun j29=>
   ifB t25
   (
    outK (opBin Tryd.prog h_32 .eql 25 true (some v14) (some AV.nilp)) fun v28 h_44=>
    obind (avBool v28) fun t28=>
    j29 t28 h_44)
   (
    j29 false h_32))
  (
   lett ((t15:Int) != 0) fun (t31:Bool)=>
   lett (fun (t35:Bool) (h_50:AHeap)=>
    ifB t35
    (
     some (.ret (.bool false),h_50))
    (
     lett (fun (t4:Bool) (h_56:AHeap)=>
      some (.ret (.bool t4),h_56)) fun k55=>
     lett (decide ((lenS t1)>100)) fun (t38:Bool)=>
     ifB t38
     (
      k55 true h_50)
     (
      obind (ldRow h_50 6 (newP h_20)) fun t43=>
      callN (call 14 [v14,strA t1] h_50) fun r42 h_59=>
      obind (avBool r42) fun t42=>
      chk (reLoad Tryd.prog h_59 34 (newP h_20) (.agg t43)&&true)<|
      callN (call 15 [.agg t43,strA t1] h_59) fun r45 h_63=>
      obind (avBool r45) fun t45=>
      lett ((t42:Bool) == t45) fun (t46:Bool)=>
      k55 t46 h_63))) fun j35=>
   ifB t31
   (
    j35 true h_32)
   (
    outK (opBin Tryd.prog h_32 .eql 25 true (some v14) (some AV.nilp)) fun v34 h_67=>
    obind (avBool v34) fun t34=>
    j35 t34 h_67)))
set_option maxHeartbeats 4000000 in
set_option maxRecDepth 20000 in
theorem law10_NfaMatches_ok{call:CallF}(hc:SaysAll Tryd.prog call){n:Nat}{t0:List AV}{t1:Bytes}{h:AHeap}{rR:ARes}{hR:AHeap}(hF:law10_NfaMatches call n t0 t1 h=some (rR,hR)):Says Tryd.prog 3 [.agg t0,strA t1] h rR hR:=by
 unfold law10_NfaMatches at hF
 refine sO Tryd.func3 fun w0 m0=>?_
 refine wW [(0,.agg t0),(1,strA t1)] ?_
 refine oG fun n1=>W.r ?_
 refine oK 2 hF fun v2 h_2 hF=>?_
 refine oA 4 (.bool false) ?_
 refine oV [(1,strA t1),(2,v2)] (n1 ?_)
 refine oH fun n4 q4=>?_
 refine oG fun n5=>W.r ?_
 refine oCb hc 9 hF fun t9 h_6 hF=>?_
 refine oB 10 hF fun t10 hF=>?_
 refine oV [(1,strA t1),(2,v2),(10,.bool t10)] (n5 ?_)
 cases t10 with
 |true=>
  refine oT hF fun hF=>?_
  refine oG fun n10=>W.r ?_
  refine oA 4 (.bool false) ?_
  refine oV [(4,.bool false)] (n10 (oY (q4 ?_)))
  exact lZ hF [.tmp 4] [.bool false] (rT res_nil)
 | false =>
  refine oU hF fun hF=>?_
  refine oZ (n4 ?_)
  refine oG fun n11=>W.r ?_
  refine oR 12 23 hF fun t12 hF=>?_
  refine oC hc (some 13) hF fun r13 h_13 hF=>?_
  refine oA 11 r13 ?_
  refine oE 14 hF fun v14 hF=>?_
  refine oEi 15 hF fun t15 hF=>?_
  refine oA 5 v14 ?_
  refine oA 6 (.int .i64 t15) ?_
  refine oV [(1,strA t1),(2,v2),(5,v14),(6,.int .i64 t15)] (n11 ?_)
  refine oG fun n18=>W.r ?_
  refine oR 17 23 hF fun t17 hF=>?_
  refine oC hc (some 18) hF fun r18 h_20 hF=>?_
  refine oA 16 r18 ?_
  refine oEa 19 hF fun t19 hF=>?_
  refine oEa 20 hF fun t20 hF=>?_
  refine oN 7 hF fun h_26 hF=>?_
  refine oN 8 hF fun h_28 hF=>?_
  refine oW 34 (.agg t19) hF fun h_30 hF=>?_
  refine oW 36 (.agg t20) hF fun h_32 hF=>?_
  refine oV [(1,strA t1),(5,v14),(6,.int .i64 t15),(7,(newP h_20)),(8,(newP h_26))] (n18 ?_)
  refine oH fun n34 q34=>?_
  refine oG fun n35=>W.r ?_
  refine oA 21 (AV.ptr (AHeap.next h_26) 0) ?_
  refine oLi 22 26 hF fun t22 hF=>?_
  refine oB 23 hF fun t23 hF=>?_
  refine oV [(1,strA t1),(5,v14),(6,.int .i64 t15),(7,(newP h_20)),(23,.bool t23)] (n35 ?_)
  cases t23 with
  | true =>
   refine oT hF fun hF=>?_
   refine W.s (fun K39 n39 e39 q39 p39=>?_)
   refine W.r ?_
   refine oA 24 (.int .i64 t15) ?_
   refine oB 25 hF fun t25 hF=>?_
   refine oA 26 (.bool t25) ?_
   obtain⟨j29,e42,hF⟩:=lett_some hF
   have J43:∀(t29:Bool) (h_41:AHeap),j29 t29 h_41=some (rR,hR)→WL Tryd.prog w0 m0 (Func.ntmps Tryd.f3) (Code.ops (Code.p1 (Code.p1 (Code.p2 (Code.p1 (Code.p2 (Code.p2 (Code.p2 (Code.p2 (codeOf Tryd.f3)))))))))) 6 K39 [(29,.bool t29)] [] h_41:=by
    intro t29 h_41 hF
    rw[e42] at hF
    refine oA 4 (.bool t29) ?_
    refine oV [(4,.bool t29)] (n39 (oY (q34 ?_)))
    exact lZ hF [.tmp 4] [.bool t29] (rT res_nil)
   cases t25 with
   |true=>
    replace hF:=ifB_t hF
    refine oA 27 v14 ?_
    replace hF:=outK_some hF;obtain⟨v28,h_44,e45,hF⟩:=hF
    replace hF:=obind_some hF;obtain⟨t28,c46,hF⟩:=hF
    have c46:=avBool_some c46
    subst c46
    refine WL.b (some 28) (.bool t28) h_44 e45 ?_
    refine oA 29 (.bool t28) ?_
    exact lW _ (J43 _ _ hF)
   |false=>
    replace hF:=ifB_f hF
    refine WL.o (some 27) ?_
    refine WL.o (some 28) ?_
    refine oA 29 (.bool false) ?_
    exact lW _ (J43 _ _ hF)
  | false =>
   refine oU hF fun hF=>?_
   refine oZ (n34 ?_)
   refine oH fun n47 q47=>?_
   refine W.s (fun K48 n48 e48 q48 p48=>?_)
   refine W.r ?_
   refine oA 30 (.int .i64 t15) ?_
   refine oB 31 hF fun t31 hF=>?_
   refine oA 32 (.bool t31) ?_
   obtain⟨j35,e51,hF⟩:=lett_some hF
   have J52:∀(t35:Bool) (h_50:AHeap),j35 t35 h_50=some (rR,hR)→WL Tryd.prog w0 m0 (Func.ntmps Tryd.f3) (Code.ops (Code.p1 (Code.p1 (Code.p2 (Code.p2 (Code.p2 (Code.p2 (Code.p2 (codeOf Tryd.f3))))))))) 6 K48 [(1,strA t1),(5,v14),(7,(newP h_20)),(35,.bool t35)] [] h_50:=by
    intro t35 h_50 hF
    rw[e51] at hF
    refine oV [(1,strA t1),(5,v14),(7,(newP h_20)),(35,.bool t35)] (n48 ?_)
    cases t35 with
    |true=>
     refine oT hF fun hF=>?_
     refine oG fun n53=>W.r ?_
     refine oA 4 (.bool false) ?_
     refine oV [(4,.bool false)] (n53 (oY (q47 ?_)))
     exact lZ hF [.tmp 4] [.bool false] (rT res_nil)
    | false =>
     refine oU hF fun hF=>?_
     refine oZ (n47 ?_)
     refine W.s (fun K54 n54 e54 q54 p54=>?_)
     obtain⟨k55,e55,hF⟩:=lett_some hF
     have J55:∀(t4:Bool) (h_56:AHeap),k55 t4 h_56=some (rR,hR)→Go w0 m0 (Func.ntmps Tryd.f3) (K54 .normal) [(4,.bool t4)] [] h_56:=by
      intro t4 h_56 hF
      rw[e55] at hF
      refine n54 (oY ?_)
      exact lZ hF [.tmp 4] [.bool t4] (rT res_nil)
     refine W.draw (by kernel_rfl) (hc.ok w0) (plan:=[0,1,2,3,4,5,7,8,6,9,10,11,12]) (by kernel_rfl) (by kernel_rfl) (by kernel_rfl) ?_
     refine WD.a 0 (some 36) (strA t1) h_50 ?_
     refine WD.a 0 (some 37) (.int .i64 (lenS t1)) h_50 ?_
     obtain⟨t38,e57,hF⟩:=lett_some hF
     refine WD.val (d:=(some 38)) (v:=.bool t38) (h':=h_50) (by kernel_rfl) (by kernel_rfl) (val_of AV.bool e57 (by kernel_rfl)) (k:=0) (by kernel_rfl) (fun e=>absurd e (by decide)) (by decide) ?_
     refine WD.a 0 (some 39) (.bool t38) h_50 ?_
     cases t38 with
     |true=>
      replace hF:=ifB_t hF
      refine oD 0 (some 40) ?_
      refine oD 0 (some 41) ?_
      refine oD 1 (some 43) ?_
      refine oD 0 (some 44) ?_
      refine WD.not (d:=(some 42)) (by kernel_rfl) (by kernel_rfl) (k:=2) (by kernel_rfl) (fun _=>(by kernel_rfl)) (by decide) ?_
      refine WD.not (d:=(some 45)) (by kernel_rfl) (by kernel_rfl) (k:=2) (by kernel_rfl) (fun _=>(by kernel_rfl)) (by decide) ?_
      refine oD 0 (some 46) ?_
      refine WD.a 0 (some 47) (.bool true) h_50 ?_
      refine WD.a 0 (some 4) (.bool true) h_50 ?_
      refine WD.nil ?_
      exact gW _ (J55 _ _ hF)
     |false=>
      replace hF:=ifB_f hF
      refine WD.a 0 (some 40) v14 h_50 ?_
      refine WD.a 0 (some 41) (strA t1) h_50 ?_
      obtain⟨t43,e58,hF⟩:=obind_some hF
      refine WD.b 1 (some 43) (.agg t43) h_50 (load_row (P:=Tryd.prog) (h:=h_50) (t:=34) (by kernel_rfl) (by kernel_rfl) e58) ?_
      refine WD.a 0 (some 44) (strA t1) h_50 ?_
      replace hF:=callN_some hF;obtain⟨r42,h_59,e60,hF⟩:=hF
      replace hF:=obind_some hF;obtain⟨t42,c61,hF⟩:=hF
      have c61:=avBool_some c61
      subst c61
      obtain⟨k62,hF⟩:=chk_some hF
      refine WD.call (d:=(some 42)) (by kernel_rfl) (by kernel_rfl) (by kernel_rfl) e60 (k:=2) (by kernel_rfl) (fun _=>(Eq.trans (by kernel_rfl) k62)) (by decide) ?_
      replace hF:=callN_some hF;obtain⟨r45,h_63,e64,hF⟩:=hF
      replace hF:=obind_some hF;obtain⟨t45,c65,hF⟩:=hF
      have c65:=avBool_some c65
      subst c65
      refine WD.call (d:=(some 45)) (by kernel_rfl) (by kernel_rfl) (by kernel_rfl) e64 (k:=2) (by kernel_rfl) (fun _=>(by kernel_rfl)) (by decide) ?_
      obtain⟨t46,e66,hF⟩:=lett_some hF
      refine WD.val (d:=(some 46)) (v:=.bool t46) (h':=h_63) (by kernel_rfl) (by kernel_rfl) (val_of AV.bool e66 (by kernel_rfl)) (k:=0) (by kernel_rfl) (fun e=>absurd e (by decide)) (by decide) ?_
      refine WD.a 0 (some 47) (.bool t46) h_63 ?_
      refine WD.a 0 (some 4) (.bool t46) h_63 ?_
      refine WD.nil ?_
      exact gW _ (J55 _ _ hF)
   cases t31 with
   |true=>
    replace hF:=ifB_t hF
    refine WL.o (some 33) ?_
    refine WL.o (some 34) ?_
    refine oA 35 (.bool true) ?_
    exact lW _ (J52 _ _ hF)
   |false=>
    replace hF:=ifB_f hF
    refine oA 33 v14 ?_
    replace hF:=outK_some hF;obtain⟨v34,h_67,e68,hF⟩:=hF
    replace hF:=obind_some hF;obtain⟨t34,c69,hF⟩:=hF
    have c69:=avBool_some c69
    subst c69
    refine WL.b (some 34) (.bool t34) h_67 e68 ?_
    refine oA 35 (.bool t34) ?_
    exact lW _ (J52 _ _ hF)
theorem flat_cnt{F:Nat→Res}{u:Bytes}(hF:∀i t j,F i=.ok (t,j)→cntN t≤1∧i<j){l:List Nd}{i:Nat}{r:Res}(k:FlatP F u l i r):∀t,dropJ r=.ok t→cntN t≤cntL l+(u.length - i):=by
 induction k with
 |stop s=>
  intro t e
  cases e
  exact Nat.le_trans (joinN_cnt (by decide) _) (Nat.le_add_right _ _)
 |bad s h=>
  intro t e
  cases e
 |more s h m ih=>
  intro t e
  have h1:=ih t e
  obtain⟨h2,h3⟩:=hF _ _ _ h
  rw[cntL_snoc] at h1
  omega
theorem treeP_cnt{k:Int}{u:Bytes}{t:Nd}(h:TreeP u k (.ok t)):cntN t≤u.length:=by
 generalize hr:Except.ok t=r at h
 cases h with
 | lit a =>
  have:=flat_cnt (F:=partL u) (fun i t j h=>by
   unfold partL at h
   split at h
   ·cases h
   ·cases h
    exact⟨Nat.le_refl _,by omega⟩) a t hr.symm
  rw[cntL] at this
  omega
 | glob a =>
  have:=flat_cnt (F:=partG u) (fun i t j h=>by
   unfold partG at h
   split at h
   ·cases h
   split at h
   ·cases h
    exact⟨Nat.le_refl _,by omega⟩
   split at h
   ·cases h
    exact⟨Nat.le_refl _,by omega⟩
   split at h
   ·split at h
    ·cases h
    ·cases h
     exact⟨Nat.le_refl _,by omega⟩
   ·cases h
    exact⟨Nat.le_refl _,by omega⟩) a t hr.symm
  rw[cntL] at this
  omega
 |re_bad a=>cases hr
 |re_end a ne=>cases hr
 |re a=>
  cases hr
  exact re_cnt a
theorem fits_match{t:Nd}(hc:cntN t≤64)(s:Bytes):endsB (Lang t) s (fun j=>decide (j=0)) s.length=matchN (netOf t) s:=by
 refine bool_ext ?_
 rw[ends_iff,match_lang (small_of hc)]
 have e:seg s 0 s.length=s.map UInt8.toNat:=by
  unfold seg
  rw[List.drop_zero,Nat.sub_zero,List.take_length]
 constructor
 ·rintro ⟨i, _, hi, h⟩
  rw[decide_eq_true_eq] at hi
  subst hi
  rw[e] at h
  exact h
 ·exact fun h=>⟨0,Nat.zero_le _,rfl,by rw[e];exact h⟩
theorem fits_w{t:Nd}{c:List AV}{T:List RowT}{n D:Nat}{s:Bytes}{h:AHeap}(k1:oneK t)(kt:NodeT t c T)(r:RowsAt h T)(hD:2*t.sz+3≤D)(hn:t.sz+1000<n)(hz:t.sz<1000000)(hl:s.length<900)(hx:memB TBo h.ex=false):
  worldR n (D+1) 15 [.agg c,strA s] h=some (.ret (.bool (endsB (Lang t) s (fun j=>decide (j=0)) s.length)),h):=by
 apply Wp.eq
 rw[w_ref10_Fits]
 refine Wp.gc ?_
 suffices hK:Wp (ref10_Fits (worldR n D) n c s h) fun r h'=>r=.ret (.bool (endsB (Lang t) s (fun j=>decide (j=0)) s.length))∧Tch [] h h' from hK.mono fun r h' ⟨e,t⟩=>⟨t.above,by rw[e];rfl,e,rfl⟩
 obtain⟨D,rfl⟩:∃D',D=D'+1:=⟨D - 1,by omega⟩
 unfold ref10_Fits
 have ll:=lenS_nat s
 have M:=Mem.nil [] h
 refine Wp.mbox M kt.one fun h1 M1=>?_
 refine Wp.lr0 M1 kt.len ?_
 obtain⟨v2,h2,e2,k2,t2⟩:=start_r (n:=n) (d:=D) (h:=h1) (s:=s) (by omega) (by rw[M1.ex];exact hx)
 refine Wp.callN e2 ?_
 have y2:ldRow h2 6 (.ptr h.next 0)=some c:=(M1.at0.1.tch t2 M1.at0.2.1 (by simp)).ldAll kt.len
 refine Wp.chk (and_t (reLoad_r (by kernel_rfl) (by kernel_rfl) y2) rfl) ?_
 obtain⟨v3,h3,e3,k3,t3⟩:=ends_ok t (n:=n) (D:=D+1) (s:=s) k1 kt r hD hn hz hl hx _ v2 h2 (M1.tch.trans t2) k2
 refine Wp.callN e3 ?_
 obtain⟨p,i1,c1⟩:=k3.idx (i:=s.length) (by omega)
 rw[←ll] at i1
 repeat(((with_reducible apply Wp.obind);(with_reducible first|exact i1|exact c1|exact avBool_bool _)))
 exact Wp.ret ⟨rfl,(M1.tch.trans t2).trans t3⟩
noncomputable def worldM(n d:Nat):CallF:=fun f args h=>match Nat.beq f 13||Nat.beq f 15 with
 |true=>worldR n d f args h
 |false=>world n d f args h
theorem worldM_ok(n d:Nat):SaysAll Tryd.prog (worldM n d):=by
 intro f args h r h' e
 unfold worldM at e
 split at e
 ·exact worldR_ok n d _ _ _ _ _ e
 ·exact world_ok n d _ _ _ _ _ e
theorem wM_works(n d:Nat)(args:List AV)(h:AHeap):worldM n d 11 args h=world n d 11 args h:=rfl
theorem wM_of(n d:Nat)(args:List AV)(h:AHeap):worldM n d 12 args h=world n d 12 args h:=rfl
theorem wM_match(n d:Nat)(args:List AV)(h:AHeap):worldM n d 14 args h=world n d 14 args h:=rfl
theorem wM_tree(n d:Nat)(args:List AV)(h:AHeap):worldM n d 13 args h=worldR n d 13 args h:=rfl
theorem wM_fits(n d:Nat)(args:List AV)(h:AHeap):worldM n d 15 args h=worldR n d 15 args h:=rfl
theorem both10(k:Int)(u:Bytes){n D:Nat}(hn:18446744073709551620<n)(hD:1000≤D):
  (∃e q:Int,e≠0∧∀h:AHeap,memB TNode h.ex=false→world n (D+3+1) 12 [.agg [.int .i64 k,strA u]] h=some (.ret (.tup [.nilp,.int .i64 2]),h)∧worldR n (D+3+1) 13 [.agg [.int .i64 k,strA u]] h=some (.ret (.tup [.agg (nodeC 0 zeroW .nsl),.agg [.int .i64 e,.int .i64 q]]),h))∨
  ∃t,u.length≤64∧TreeP u k (.ok t)∧∀h:AHeap,memB TNode h.ex=false→(∃nb h',world n (D+3+1) 12 [.agg [.int .i64 k,strA u]] h=some (.ret (.tup [.ptr nb 0,.int .i64 0]),h')∧Abs.Mem [] h h' [(nb,TNet,netC (netOf t))])∧OutT h (worldR n (D+3+1) 13 [.agg [.int .i64 k,strA u]] h) (.ok t):=by
 by_cases hk:k=1∨k=2∨k=3
 ·by_cases hl : 64 < u.length
  ·exact .inl ⟨3,64,by decide,fun h hx=>⟨of_bad (e1:=3) (q:=64) (by decide) (fun h hx=>tree_long hl hk) hx,rTree_long hl hk⟩⟩
  ·obtain ⟨r, r1, _, r3⟩ := (tree_kinds (u := u) (by omega) hk).2 (by omega)
   cases r with
   |error q=>exact .inl ⟨6,(q:Int),by decide,fun h hx=>⟨of_bad (e1:=6) (q:=(q:Int)) (by decide) (fun h hx=>r3 (by omega) (by omega) hx) hx,rTree_ok (by omega) (by omega) r1 (by omega) hx⟩⟩
   |ok t=>
    have hz:=treeP_small r1
    exact .inr ⟨t,by omega,r1,fun h hx=>⟨of_ok (treeP_oneK r1) (by omega) (by omega) hn (fun h hx=>r3 (by omega) (by omega) hx) hx,rTree_ok (by omega) (by omega) r1 (by omega) hx⟩⟩
 ·exact .inl ⟨2,0,by decide,fun h hx=>⟨of_bad (e1:=2) (q:=0) (by decide) (fun h hx=>tree_kind hk) hx,rTree_other (fun e=>hk (.inl e)) (fun e=>hk (.inr (.inl e))) (fun e=>hk (.inr (.inr e)))⟩⟩
set_option maxRecDepth 100000 in
theorem nfaMatches_says(h:AHeap)(hX:h.ex=[])(hT:HasTz h)(xs:List AV)(hP:ArgsP Tryd.prog h.next h 12 [23,9] xs):∃h',Says Tryd.prog 3 xs h (.ret (.bool true)) h':=by
 obtain⟨_,_,rfl,hp0,hP⟩:=args_cons hP
 obtain⟨_,_,rfl,hp1,hP⟩:=args_cons hP
 obtain rfl:=args0 hP
 obtain⟨k,u,rfl,_⟩:=pat_of hp0
 obtain⟨s,rfl,hsc⟩:=hp1.str Tryd.underlying9
 obtain⟨n,hn⟩:∃n,18446744073709551620<n:=⟨_,Nat.lt_succ_self _⟩
 obtain⟨D,hD⟩:∃D,2000≤D:=⟨2000,Nat.le_refl _⟩
 suffices hK:Wp (law10_NfaMatches (worldM n (D+4)) n [.int .i64 k,strA u] s h) fun r _=>r=.ret (.bool true) by
  obtain⟨_,h',e,rfl⟩:=hK
  exact⟨h',law10_NfaMatches_ok (worldM_ok n (D+4)) e⟩
 have hxN:∀{h1:AHeap} {rs:List RowT},Abs.Mem [] h h1 rs→memB TNode h1.ex=false:=fun M=>by rw[M.ex,hX];rfl
 have hxB:∀{h1:AHeap} {rs:List RowT},Abs.Mem [] h h1 rs→memB TBo h1.ex=false:=fun M=>by rw[M.ex,hX];rfl
 have hTz:∀{h1:AHeap} {rs:List RowT},Abs.Mem [] h h1 rs→HasTz h1:=fun M=>hT.tch M.tch (by simp)
 unfold law10_NfaMatches
 have Mx:=Mem.nil [] h
 have lc:=lenS_nat s
 repeat(((with_reducible apply Wp.mbox Mx);(rfl);clear Mx;intro _ Mx))
 refine Wp.callN ((wM_works _ _ _ _).trans (works_w (d:=D+2) hn (by omega) (hTz Mx) (hxN Mx))) ?_
 repeat(first|(with_reducible apply Wp.obind;exact avBool_bool _)|((with_reducible apply Wp.lr0 Mx);rfl)|(with_reducible first|refine Wp.lett ?_|(refine Wp.iff ?_ ?_;exact Bool.not_true)))
 rcases both10 k u (n:=n) (D:=D) hn (by omega) with⟨e,q,he,hb⟩|⟨t,hlu,tp,ht⟩
 ·refine Wp.callN ((wM_of _ _ _ _).trans (hb _ (hxN Mx)).1) ?_
  repeat(first|(with_reducible apply Wp.obind;exact avInt_int _ _)|((with_reducible apply Wp.lr0 Mx);rfl)|(with_reducible apply Wp.obind;first|exact extT_0 _ _|exact extT_1 _ _ _))
  refine Wp.callN ((wM_tree _ _ _ _).trans (hb _ (hxN Mx)).2) ?_
  repeat(first|(with_reducible apply Wp.obind;first|exact avInt_int _ _|exact avBool_bool _)|((with_reducible apply Wp.ld0 Mx);rfl)|((with_reducible apply Wp.sa0 Mx);rfl;rfl;(rfl);clear Mx;intro _ Mx)|((with_reducible apply Wp.sa1 Mx);rfl;rfl;(rfl);clear Mx;intro _ Mx)|((with_reducible apply Wp.mnew Mx);clear Mx;intro _ Mx)|(with_reducible first|refine Wp.join1 (fun _ _=>?_)|refine Wp.lett ?_|(apply Wp.obind;first|exact avAgg_agg _|exact extT_0 _ _|exact extT_1 _ _ _))|((with_reducible refine Wp.ift ?_ ?_);((with_reducible first|apply bne_t|apply beq_t);omega))|(with_reducible first|(apply Wp.outK;exact nilNet _)|refine Wp.go1 (by assumption) ?_)|rw[newP_eq])
  exact Wp.ret rfl
 ·obtain ⟨⟨nb, h1, e1, N1⟩, _⟩ := ht _ (hxN Mx)
  refine Wp.callN ((wM_of _ _ _ _).trans e1) ?_
  have M1:=Mem.frame (xs:=[]) Mx N1
  simp only[List.nil_append,List.cons_append] at M1
  clear Mx N1 e1
  have Mx:=M1
  clear M1
  repeat(first|(with_reducible apply Wp.obind;exact avInt_int _ _)|((with_reducible apply Wp.lr1 Mx);rfl)|(with_reducible apply Wp.obind;first|exact extT_0 _ _|exact extT_1 _ _ _))
  obtain⟨c,T,H1,e2,kt,N2⟩:=(ht _ (hxN Mx)).2
  refine Wp.callN ((wM_tree _ _ _ _).trans e2) ?_
  have M2:=Mem.frameT (xs:=[]) (ys:=[]) Mx N2
  simp only[List.nil_append,List.cons_append] at M2
  clear Mx N2 e2
  have Mx:=M2
  clear M2
  repeat(first|((with_reducible apply Wp.mnew Mx);clear Mx;intro _ Mx)|(with_reducible apply Wp.obind;first|exact avAgg_agg _|exact extT_0 _ _|exact extT_1 _ _ _)|rw[newP_eq])
  refine Wp.sa1 Mx kt.len rfl kt.one fun h3 M3=>?_
  clear Mx
  have Mx:=M3
  clear M3
  by_cases hbig:100<s.length
  ·repeat (first | (with_reducible apply Wp.obind; first | exact avInt_int _ _ | exact avBool_bool _) | ((with_reducible apply Wp.ld0 Mx); rfl) | ((with_reducible apply Wp.sa0 Mx); rfl; rfl; (rfl); clear Mx; intro _ Mx) | (with_reducible first | refine Wp.join1 (fun _ _ => ?_) | refine Wp.lett ?_) | ((with_reducible refine Wp.ift ?_ ?_); ((with_reducible first | apply decide_eq_true | apply bne_t); omega)) | ((with_reducible refine Wp.iff ?_ ?_); first | (with_reducible rfl) | ((with_reducible apply bne_f); omega)) | (with_reducible first | (apply Wp.outK; exact eqNet _ _ _) | refine Wp.go1 (by assumption) ?_))
   exact Wp.ret rfl
  repeat(first|(with_reducible apply Wp.obind;first|exact avInt_int _ _|exact avBool_bool _)|((with_reducible apply Wp.ld0 Mx);rfl)|((with_reducible apply Wp.sa0 Mx);rfl;rfl;(rfl);clear Mx;intro _ Mx)|(with_reducible first|refine Wp.join1 (fun _ _=>?_)|refine Wp.lett ?_)|((with_reducible refine Wp.iff ?_ ?_);first|(with_reducible rfl)|((with_reducible first|apply decide_eq_false|apply bne_f);omega))|(with_reducible first|(apply Wp.outK;exact eqNet _ _ _)|refine Wp.go1 (by assumption) ?_))
  refine Wp.lr1 Mx kt.len ?_
  obtain⟨gA,eA,tA⟩:=match_r (n:=n) (d:=D) (s:=s) (hTz Mx) (netOf_ok t) (by omega) (by omega) Mx.at2.1 Mx.at2.2.1
  refine Wp.callN ((wM_match _ _ _ _).trans eA) ?_
  have MA:=Mx.keep tA
  refine Wp.obind (avBool_bool _) ?_
  refine Wp.chk (and_t (reLoad_r (by kernel_rfl) (by kernel_rfl) (RowH.ldAll MA.at1.1 kt.len)) rfl) ?_
  have rT:=rowsAt_of (T:=T) MA (fun y hy=>by simp[hy])
  have hz:=treeP_small tp
  have ef:=fits_w (n:=n) (D:=D+3) (s:=s) (treeP_oneK tp) kt rT (by omega) (by omega) (by omega) (by omega) (hxB MA)
  rw[fits_match (Nat.le_trans (treeP_cnt tp) hlu)] at ef
  refine Wp.callN ((wM_fits _ _ _ _).trans ef) ?_
  repeat(with_reducible first|refine Wp.lett ?_|(apply Wp.obind;exact avBool_bool _)|refine Wp.go1 (by assumption) ?_)
  refine Wp.ret ?_
  rw[beq_self_eq_true]
end Go.Proofs.YtakhljnkmbpmpaaDoor
