/- What gatewayFences_proved stands on, part 7 of 8. -/
import Derived.Test.YtfcedccphhmdgaaGF6
import Derived.OpenShut
import Derived.LaidMore
namespace Go.Proofs.Ytfcedccphhmdgaa.Abs
noncomputable section
open Go.RowKit
inductive KI where
 |code (p:List Nat)
 |inLoop (p:List Nat)
 |inBlock (id:Nat)
 |ops (p:List Nat) (j:Nat)
structure MF where
 f:FuncId
 N:Nat
 a:AAct
 k:List KI
structure MS where
 top:MF
 st:List (Option Tmp×MF)
 h:AHeap
structure LF where
 f:FuncId
 N:Nat
 l:Fr
 ds:List (FuncId×List AV×List AV)
 k:List KI
inductive LO where
 |row (l:List AV) (e:TypeId)
 |map (es:List (AV×AV))
 |glob (l:List AV)
 |dfr
structure LS where
 top:LF
 st:List (Option Tmp×LF)
 next:Nat
 ex:List Nat
 obs:List (Nat×LO)
def LO.obj:LO→AObj
 | .row l e=>rowOf l e
 | .map es=>.map es
 | .glob l=>.glob (T.put .e 0 l)
 | .dfr=>.obj .dfr
def obTree:List (Nat×LO)→T AObj
 |[]=>.e
 |(b,o)::r=>(obTree r).set b o.obj
def LF.mf(x:LF):MF:=⟨x.f,x.N,⟨x.l.tree,x.ds⟩,x.k⟩
def LS.ms(x:LS):MS:=⟨x.top.mf,x.st.map fun y=>(y.1,y.2.mf),⟨x.next,x.ex,obTree x.obs⟩⟩
def sameN:List Nat→List Nat→Bool
 |[],[]=>true
 |a::l,b::m=>Nat.beq a b&&sameN l m
 |_,_=>false
def sameKI:KI→KI→Bool
 | .code p,.code q=>sameN p q
 | .inLoop p,.inLoop q=>sameN p q
 | .inBlock i,.inBlock j=>Nat.beq i j
 | .ops p i,.ops q j=>sameN p q&&Nat.beq i j
 |_,_=>false
end
noncomputable section
open Go.RowKit
section
variable {P:Program}
def LeavesX(P:Program)(fn:Func)(tmps:Array Value)(R:Ending→World→Prop):List Deferred→FrameMode→World→Prop
  |[],u,w=>Leaves P fn tmps R [] u w
  | d :: ds, u, w => u ≠ .run ∧
      ((∃ r w', d.target = .collected r ∧ (Instr.takeDeferred r).run P w = .ok [] w' ∧ LeavesX P fn tmps R ds u w') ∨
       (∃ fv cap f args, d.target = .fn fv cap ∧ (invoke d.target d.args).run P w = .ok (.enter f args) w ∧
        CallsD P f args u w fun
          | .returned _,u',w'=>LeavesX P fn tmps R ds (settle u') w'
          | .panicked chain,u',w'=>LeavesX P fn tmps R ds (raised u' chain) w'
          | .outgrown,_,w'=>R .outgrown w'))
def bodyPostX(P:Program)(fn:Func)(R:Ending→World→Prop):Exit→Act→World→Prop
 | .normal,a,w| .ret,a,w=>LeavesX P fn a.tmps R a.defers .returning w
 | .panic chain,a,w=>LeavesX P fn a.tmps R a.defers (.panicking chain) w
 | .outgrown,_,w=>R .outgrown w
 |_,_,_=>False
end
section
variable {P:Program}{w0:Base}{R0:Ending→World→Prop}{both:BothF}{lf:Nat}
def Bo(P:Program)(f:FuncId)(R:Ending→World→Prop):Exit→Act→World→Prop:=match P.funcs[f]? with
 |some fn=>bodyPostX P fn R
 |none=>fun _ _ _=>False
theorem Bo.ret{f:FuncId}{R:Ending→World→Prop}{a:Act}{w:World}(h:Bo P f R .normal a w):Bo P f R .ret a w:=by
 revert h
 unfold Bo
 cases P.funcs[f]? with
 |none=>exact id
 |some fn=>exact id
variable {c:Code}{Q:Exit→Act→World→Prop}{act:Act}{w:World}
end
end
noncomputable section
open Go.RowKit
end
noncomputable section
open Go.RowKit
end
noncomputable section
open Go.RowKit
end
noncomputable section
open Go.RowKit
end
noncomputable section
open Go.RowKit
end
end Go.Proofs.Ytfcedccphhmdgaa.Abs
namespace Go.Proofs.Ytfcedccphhmdgaa
open Go.RowKit Abs
def numB:Nat→Nat→Bytes
 |0,_=>[]
 |w+1,v=>numB w (v/256)++[UInt8.ofNat (v%256)]
theorem numB_length:∀(w v:Nat),(numB w v).length=w
 |0,_=>rfl
 |w+1,v=>by simp[numB,numB_length w]
theorem el37:Abs.elemOf Try.prog 58=some 5:=by kernel_rfl
theorem zero5:zeroA Try.prog 5=some (.int .u8 0):=by kernel_rfl
theorem cells5:Try.prog.cellsOf 5=1:=by kernel_rfl
theorem fit5:fitB Try.prog 5 1=true:=by kernel_rfl
theorem bytes37:isBytes Try.prog 58=true:=by kernel_rfl
theorem str9:isStr Try.prog 9=true:=by kernel_rfl
theorem set_rep(j:Nat)(x:UInt8)(rest:Bytes):(bytesC (List.replicate (j+1) 0++rest)).set j (.int .u8 (x.toNat:Int))=bytesC (List.replicate j 0++(x::rest)):=by
 have e:List.replicate (j+1) (0:UInt8)++rest=List.replicate j 0++(0::rest):=by
  rw[List.replicate_succ',List.append_assoc];rfl
 rw[e];unfold bytesC;rw[List.map_append,List.map_append,List.set_append_right _ _ (by simp)]
 simp
theorem byte_of(v:Nat):((UInt8.ofNat (v%256)).toNat:Int)=((v%256:Nat):Int):=by
 rw[UInt8.toNat_ofNat']
 simp
section
variable {b n d:Nat}{k9:AHeap→R}
theorem number_loop:∀(j f v:Nat) (h:AHeap) (rest:Bytes),j<f→j≤8→v<18446744073709551616→RowH h b 5 (bytesC (List.replicate j 0++rest))→
  ∃h',wire_number_L0 (.sl b 0 (j+rest.length) 1) k9 f (v:Int) ((j:Int) - 1) h=k9 h'∧RowH h' b 5 (bytesC (numB j v++rest))∧Tch [b] h h'∧h'.next=h.next
 |0,f+1,v,h,rest,_,_,_,k=>by
  refine⟨h,?_,k,Tch.refl _ _,rfl⟩;rw[wire_number_L0_s];unfold wire_number_L0b;rw[lett_eq,decide_eq_false (by omega),ifB_false]
 |j+1,f+1,v,h,rest,hf,hj,hv,k=>by
  obtain⟨h1,q1,q2,q3,q4,q5⟩:=k.st1 (o:=j) (v:=.int .u8 ((v%256:Nat):Int)) (by rw[bytesC_length];simp;omega) rfl;rw[←byte_of,set_rep] at q2;obtain⟨h2,p1,p2,p3,p4⟩:=number_loop j f (v/256) h1 (UInt8.ofNat (v%256)::rest) (by omega) (by omega) (by omega) q2;refine⟨h2,?_,by rw[numB,List.append_assoc];exact p2,(tch_of (S:=[b]) q3 q4 q5 (.inl (by simp))).trans p3,p4.trans q3⟩;rw[wire_number_L0_s];unfold wire_number_L0b;have e1:IntKind.u8.wrap (v:Int)=((v%256:Nat):Int):=by rw[wrap_u8_mod];omega
  have e2:shrI .u64 (v:Int) 8=some ((v/256:Nat):Int):=by
   have:shrI .u64 (v:Int) 8=some ((v:Int).fdiv 256):=rfl;rw[this,Int.fdiv_eq_ediv_of_nonneg _ (by omega)];rfl
  have e3:((j+1:Nat):Int) - 1=(j:Int):=by omega
  have e4:IntKind.i64.wrap ((j:Int) - 1)=(j:Int) - 1:=wrap_i64 (by omega) (by omega);rw[e3,lett_eq,decide_eq_true (by omega),ifB_true,lett_eq,idxP_sl (by omega),obind_val,e1,Nat.zero_add,Nat.mul_one,q1,obind_val,e2,obind_val,lett_eq,e4];rw[show j+1+rest.length=j+(UInt8.ofNat (v%256)::rest).length by simp;omega];exact p1
end
section
variable {n d:Nat}{h:AHeap}
theorem zeros_row(w:Nat)(h:AHeap):RowH (newH h 5 (bytesC (List.replicate w 0))) h.next 5 (bytesC (List.replicate w 0++[])):=by
 rw[List.append_nil];exact RowH.new _ _ _
theorem conv37{h:AHeap}{b:Nat}{l:Bytes}(k:RowH h b 5 (bytesC l)):opConv Try.prog h 58 9 (some (.sl b 0 l.length 1))=some (.val (strA l),h):=
 conv_row bytes37 str9 (by rw[k.part (by rw[bytesC_length];omega),List.drop_zero, ←bytesC_length l,List.take_length])
theorem number_w{v w:Nat}(hn:8<n)(hw:w≤8)(hv:v<18446744073709551616)(hx:memB 5 h.ex=false):world n (d+1) 74 [.int .u64 (v:Int),.int .i64 (w:Int)] h=some (.ret (strA (numB w v)),h):=by
 rw[w_wire_number];unfold wire_number;rw[make_bytes (k1:=.i64) (k2:=.i64) el37 zero5 cells5 fit5 hx (Nat.le_refl w) (by omega),outK_val,lett_eq,wrap_i64 (by omega) (by omega)]
 suffices hK:∃h',lett (fun (h_10:AHeap)=>outK (opConv Try.prog h_10 58 9 (some (.sl h.next 0 w 1))) fun v23 h_12=>obind (avStr v23) fun t23=>some (ARes.ret (strA t23),h_12)) (fun k9=>wire_number_L0 (.sl h.next 0 w 1) k9 n (v:Int) ((w:Int) - 1) (newH h 5 (bytesC (List.replicate w 0))))=some (.ret (strA (numB w v)),h')∧Above h h' by
  obtain⟨h',e,ha⟩:=hK;rw[e];exact gcR_scal ha rfl
 obtain⟨h',e1,e2,e3,e4⟩:=number_loop (b:=h.next) (k9:=fun (h_10:AHeap)=>outK (opConv Try.prog h_10 58 9 (some (.sl h.next 0 w 1))) fun v23 h_12=>obind (avStr v23) fun t23=>some (ARes.ret (strA t23),h_12)) w n v (newH h 5 (bytesC (List.replicate w 0))) [] (by omega) hw hv (zeros_row w h);rw[List.append_nil] at e2;have hc:=conv37 e2;rw[numB_length] at hc;refine⟨h',?_,((Tch.newH [] h 5 (bytesC (List.replicate w 0))).trans' e3 (by intro b hb;simp at hb;subst hb;exact .inr (Nat.le_refl _))).above⟩;rw[lett_eq];refine e1.trans ?_;rw[hc,outK_val,avStr_str,obind_val]
theorem u32_w{v:Nat}(hn:8<n)(hv:v<4294967296)(hx:memB 5 h.ex=false):world n (d+2) 77 [.int .u32 (v:Int)] h=some (.ret (strA (numB 4 v)),h):=by
 rw[w_wire_U32];unfold wire_U32;have e:IntKind.u64.wrap (v:Int)=(v:Int):=by rw[wrap_u64_mod];omega
 rw[lett_eq,e,show ((4:Int))=((4:Nat):Int) from rfl,number_w hn (by omega) (by omega) hx,callN_ret,avStr_str,obind_val];exact gcR_self
theorem u64_w{v:Nat}(hn:8<n)(hv:v<18446744073709551616)(hx:memB 5 h.ex=false):world n (d+2) 64 [.int .u64 (v:Int)] h=some (.ret (strA (numB 8 v)),h):=by
 rw[w_wire_U64];unfold wire_U64;rw[show ((8:Int))=((8:Nat):Int) from rfl,number_w hn (by omega) hv hx,callN_ret,avStr_str,obind_val];exact gcR_self
def textB(s:Bytes):Bytes:=numB 4 s.length++s
theorem length_w{s:Bytes}(hn:8<n)(hs:s.length≤1048576)(hx:memB 5 h.ex=false):world n (d+3) 75 [strA s] h=some (.ret (strA (numB 4 s.length)),h):=by
 rw[w_wire_length];unfold wire_length;have e:IntKind.u32.wrap (lenS s)=(s.length:Int):=by rw[lenS_nat,wrap_u32_mod];omega
 rw[lett_eq,e,u32_w hn (by omega) hx,callN_ret,avStr_str,obind_val];exact gcR_self
theorem addS_ok{a b:Bytes}(h:a.length+b.length≤1000000000):addS a b=some (a++b):=by
 unfold addS;rw[Nat.ble_eq_true_of_le h]
theorem text_w{s:Bytes}(hn:8<n)(hs:s.length≤1048576)(hx:memB 5 h.ex=false):world n (d+4) 65 [strA s] h=some (.ret (.tup [strA (textB s),.int .i64 0]),h):=by
 rw[w_wire_Text];unfold wire_Text;rw[lett_eq,lenS_nat,decide_eq_false (show ¬(s.length:Int)>1048576 by omega),ifB_false,length_w hn hs hx,callN_ret,avStr_str,obind_val,addS_ok (by rw[numB_length];omega),obind_val];exact gcR_self
end
structure RS where
 p:Nat
 e:Int
 q:Int
def valF:Nat→Bytes→Nat
 |a,[]=>a
 |a,b::l=>valF (a*256+b.toNat) l
def valB(l:Bytes):Nat:=valF 0 l
theorem valF_append:∀(l k:Bytes) (a:Nat),valF a (l++k)=valF (valF a l) k
 |[],_,_=>rfl
 |b::l,k,a=>by rw[List.cons_append,valF,valF_append l k,valF]
theorem valF_lt:∀(l:Bytes) (a:Nat),valF a l<(a+1)*256 ^ l.length
 |[],a=>by simp[valF]
 |b::l,a=>by
  rw[valF,List.length_cons,Nat.pow_succ];have h:=valF_lt l (a*256+b.toNat);have hb:=b.toNat_lt;have h2:(a*256+b.toNat+1)*256 ^ l.length≤((a+1)*256)*256 ^ l.length:=Nat.mul_le_mul_right _ (by omega)
  calc _<_:=h
   _≤_:=h2
   _=_:=by rw[Nat.mul_assoc,Nat.mul_comm 256]
theorem valB_lt(l:Bytes):valB l<256 ^ l.length:=by
 have:=valF_lt l 0;rw[Nat.zero_add,Nat.one_mul] at this;exact this
theorem valB_succ{s:Bytes}{p i:Nat}(h:p+i<s.length):valB ((s.drop p).take (i+1))=valB ((s.drop p).take i)*256+s[p+i].toNat:=by
 unfold valB;rw[List.take_succ_eq_append_getElem (by rw[List.length_drop];omega),valF_append,List.getElem_drop];rfl
theorem valB_le8{s:Bytes}{p i:Nat}:valB ((s.drop p).take i)<256 ^ i:=by
 refine Nat.lt_of_lt_of_le (valB_lt _) (Nat.pow_le_pow_right (by omega) ?_);rw[List.length_take];exact Nat.min_le_left _ _
theorem pow_le7{i:Nat}(hi:i≤7):256 ^ i≤72057594037927936:=Nat.le_trans (Nat.pow_le_pow_right (by omega) hi) (by decide)
def rNum(s:Bytes)(w:Nat)(r:RS):Nat×RS:=
 if r.e≠0 then (0,r) else if s.length<r.p+w then (0,⟨r.p,7,(r.p:Int)⟩) else (valB ((s.drop r.p).take w),⟨r.p+w,r.e,r.q⟩)
def rText(s:Bytes)(most:Nat)(r:RS):Bytes×RS:=
 if (rNum s 4 r).2.e≠0 then ([],(rNum s 4 r).2) else if most<(rNum s 4 r).1 then ([],⟨(rNum s 4 r).2.p,3,(r.p:Int)⟩)
 else if s.length<(rNum s 4 r).2.p+(rNum s 4 r).1 then ([],⟨(rNum s 4 r).2.p,7,(r.p:Int)⟩) else ((s.drop (rNum s 4 r).2.p).take (rNum s 4 r).1,⟨(rNum s 4 r).2.p+(rNum s 4 r).1,(rNum s 4 r).2.e,(rNum s 4 r).2.q⟩)
def rEnd(s:Bytes)(r:RS):Int×Int:=if r.e=0∧r.p<s.length then (7,(r.p:Int)) else (r.e,r.q)
def RS.ok(s:Bytes)(r:RS):Prop:=r.p≤s.length
theorem rNum_ok{s:Bytes}{w:Nat}{r:RS}(h:r.ok s):(rNum s w r).2.ok s:=by
 unfold RS.ok at *;unfold rNum
 split
 ·exact h
 ·split
  ·exact h
  ·show r.p + w ≤ s.length
   omega
theorem rNum_lt{s:Bytes}{w:Nat}{r:RS}:(rNum s w r).1 <256 ^ w:=by
 have hp:0<256 ^ w:=Nat.pow_pos (by omega);unfold rNum
 split
 ·exact hp
 ·split
  ·exact hp
  ·exact valB_le8
theorem rNum_bad{s:Bytes}{w:Nat}{r:RS}(h:(rNum s w r).2.e=0):r.e=0∧r.p+w≤s.length∧rNum s w r=(valB ((s.drop r.p).take w),⟨r.p+w,r.e,r.q⟩):=by
 unfold rNum at *
 split
 ·rename_i h1
  rw[if_pos h1] at h;exact absurd h h1
 ·rename_i h1
  rw[if_neg h1] at h
  split
  ·rename_i h2
   rw[if_pos h2] at h
   simp at h
  ·exact⟨by simpa using h1,by omega,rfl⟩
noncomputable def rdC(s:Bytes)(r:RS):List AV:=[strA s,.int .i64 (r.p:Int),.int .i64 r.e,.int .i64 r.q]
abbrev PR(h:AHeap)(b:Nat)(s:Bytes)(r:RS):Prop:=RowH h b 140 (rdC s r)
theorem neq72(h:AHeap)(b:Nat):opBin Try.prog h .neq 121 true (some (.ptr b 0)) (some .nilp)=some (.val (.bool true),h):=by kernel_rfl
theorem eql72(h:AHeap)(b:Nat):opBin Try.prog h .eql 121 true (some (.ptr b 0)) (some .nilp)=some (.val (.bool false),h):=by kernel_rfl
theorem shl8{v:Int}(h0:0≤v)(h1:v<72057594037927936):shlI .u64 v 8=some (v*256):=by
 have:shlI .u64 v 8=some (IntKind.u64.wrap (v*256)):=rfl;rw[this,wrap_u64_mod,Int.emod_eq_of_lt (by omega) (by omega)]
theorem or8{v c:Nat}(h1:v<72057594037927936)(h2:c<256):orI .u64 ((v:Int)*256) (c:Int)=((v*256+c:Nat):Int):=by
 show IntKind.u64.wrap (((BitVec.ofInt 64 ((v:Int)*256))|||(BitVec.ofInt 64 (c:Int))).toNat:Int)=_
 have e1:(BitVec.ofInt 64 ((v:Int)*256))=BitVec.ofNat 64 (v*256):=by
  rw[show ((v:Int)*256)=((v*256:Nat):Int) by omega];exact BitVec.ofInt_natCast ..
 have e2:(BitVec.ofInt 64 (c:Int))=BitVec.ofNat 64 c:=BitVec.ofInt_natCast ..;rw[e1,e2,BitVec.toNat_or,BitVec.toNat_ofNat,BitVec.toNat_ofNat,Nat.mod_eq_of_lt (by omega),Nat.mod_eq_of_lt (by omega)]
 have e3:v*256|||c=v*256+c:=by
  have:=Nat.shiftLeft_add_eq_or_of_lt (i:=8) (b:=c) (by omega) v;rw[Nat.shiftLeft_eq] at this;exact this.symm
 rw[e3,wrap_u64_mod,Int.emod_eq_of_lt (by omega) (by omega)]
section
variable {n d b:Nat}{h:AHeap}{s:Bytes}{r:RS}{Q:ARes→AHeap→Prop}
theorem whole_w(k:PR h b s r):world n (d+1) 72 [.ptr b 0] h=some (.ret (.bool (decide (r.e=0))),h):=by
 apply Wp.eq;rw[w_wire_Reader_whole];unfold wire_Reader_whole
 repeat(first|(with_reducible first|refine y19 (fun _ _=>?_)|refine Wp.lett ?_)|((with_reducible apply Wp.obind);first|(with_reducible first|exact avInt_int _ _|exact avBool_bool _|exact nilC_ptr _ _|exact fldP_ptr _ _ _)|((with_reducible apply y5);(with_reducible assumption);rfl))|(with_reducible first|(refine yc ?_ ?_;rfl)|(apply Wp.outK;exact neq72 _ _)|refine y2a (by assumption) ?_))
 exact Wp.ret ⟨by rw[←Bool.beq_eq_decide_eq],rfl⟩
theorem fail_w(k:PR h b s r)(e q:Int):∃h',world n (d+1) 71 [.ptr b 0,.int .i64 e,.int .i64 q] h=some (.ret (.tup []),h')∧PR h' b s ⟨r.p,e,q⟩∧Tch [b] h h':=by
 apply Wp.ex;rw[w_wire_Reader_fail];unfold wire_Reader_fail
 repeat(((with_reducible apply Wp.obind);(with_reducible first|exact nilC_ptr _ _|exact fldP_ptr _ _ _)))
 exact y43 k (vs:=[.int .i64 e,.int .i64 q]) rfl (show 0+2+2≤4 by decide) rfl (fun h' k' t' _=>Wp.ret ⟨rfl,k',t'⟩)
theorem num_loop{w:Nat}(hw:w≤8)(hp:r.p+w≤s.length)(hs:s.length≤1000000000){k33:Int→AHeap→R}(hk:k33=fun t5 h_34=>some (.ret (.int .u64 t5),h_34)){h0:AHeap}:
  ∀(f i:Nat) (h:AHeap),w<f+i→i≤w→PR h b s ⟨r.p+i,r.e,r.q⟩→Tch [b] h0 h→
   Wp (wire_Reader_number_L0 (.ptr b 0) (w:Int) k33 f (valB ((s.drop r.p).take i):Int) (i:Int) h) fun x h'=>x=.ret (.int .u64 (valB ((s.drop r.p).take w):Int))∧PR h' b s ⟨r.p+w,r.e,r.q⟩∧Tch [b] h0 h'
 |0,i,h,h1,h2,_,_=>by omega
 |f+1,i,h,h1,h2,k,t=>by
  rw[wire_Reader_number_L0_s];unfold wire_Reader_number_L0b
  by_cases hi:i<w
  ·have hv : valB ((s.drop r.p).take i) < 72057594037927936 := Nat.lt_of_lt_of_le valB_le8 (pow_le7 (by omega))
   have hc:=(s[r.p+i]'(by omega)).toNat_lt;have hx:idxS s ((r.p+i:Nat):Int)=some ((s[r.p+i]'(by omega)).toNat:Int):=idxS_nat (by omega);have hsuc:=valB_succ (s:=s) (p:=r.p) (i:=i) (by omega);have k0:RowH h b 140 [strA s,.int .i64 ((r.p+i:Nat):Int),.int .i64 r.e,.int .i64 r.q]:=k;clear k
   repeat(first|((with_reducible first|refine ye ?_ ?_ ?_|refine y1e ?_ ?_ ?_);omega;omega)|(with_reducible refine Wp.lett ?_)|((with_reducible apply Wp.obind);first|(with_reducible first|exact shl8 (by omega) (by omega)|exact hx|exact avInt_int _ _|exact avStr_str _|exact nilC_ptr _ _|exact fldP_ptr _ _ _)|((with_reducible apply y5);(with_reducible assumption);rfl))|((with_reducible refine yc ?_ ?_;apply decide_eq_true);omega))
   refine Wp.st1 k0 (show 1<4 by decide) rfl (fun h' k' t' _=>?_)
   repeat(((with_reducible refine ye ?_ ?_ ?_);omega;omega))
   rw[or8 hv hc, ←hsuc,show (i:Int)+1=((i+1:Nat):Int) by omega];refine num_loop hw hp hs hk f (i+1) h' (by omega) (by omega) ?_ (t.trans t')
   have e:([strA s,.int .i64 ((r.p+i:Nat):Int),.int .i64 r.e,.int .i64 r.q]:List AV).set 1 (.int .i64 (((r.p+i:Nat):Int)+1))=rdC s ⟨r.p+(i+1),r.e,r.q⟩:=by
    rw[show ((r.p+i:Nat):Int)+1=((r.p+(i+1):Nat):Int) by omega];rfl
   have k2:RowH h' b 140 _:=k';rw[show 0+1=1 from rfl,e] at k2;exact k2
  ·have : i = w := by omega
   subst this
   repeat(first|(with_reducible refine Wp.lett ?_)|((with_reducible refine y7 ?_ ?_;apply decide_eq_false);omega)|(with_reducible refine y2a (by assumption) ?_))
   exact Wp.ret ⟨rfl,k,t⟩
theorem number_r{w:Nat}(k:PR h b s r)(hok:r.ok s)(hw:w≤8)(hs:s.length≤1000000000)(hn:8<n){W:Int}(hW:W=(w:Int)):∃h',world n (d+2) 69 [.ptr b 0,.int .i64 W] h=some (.ret (.int .u64 ((rNum s w r).1:Int)),h')∧PR h' b s (rNum s w r).2∧Tch [b] h h':=by
 subst hW;unfold RS.ok at hok;apply Wp.ex;rw[w_wire_Reader_number];unfold wire_Reader_number;have hwh:=whole_w (n:=n) (d:=d) k;have ll:=lenS_nat s;unfold rNum
 by_cases he:r.e=0
 case neg=>
  rw[decide_eq_false he] at hwh;rw[if_pos he]
  repeat(with_reducible first|refine Wp.lett ?_|(apply Wp.obind;exact avBool_bool _)|(refine yc ?_ ?_;exact Bool.not_false)|(apply Wp.callN;assumption))
  exact Wp.ret ⟨rfl,k,Tch.refl _ _⟩
 rw[decide_eq_true he] at hwh;rw[if_neg (by simpa using he)]
 by_cases hl:s.length<r.p+w
 ·obtain ⟨h1, e1, k1, t1⟩ := fail_w (n := n) (d := d) k 7 (r.p : Int)
  rw[if_pos hl]
  repeat(first|((with_reducible refine ye ?_ ?_ ?_);omega;omega)|(with_reducible refine Wp.lett ?_)|((with_reducible apply Wp.obind);first|(with_reducible first|exact avInt_int _ _|exact avBool_bool _|exact avStr_str _|exact nilC_ptr _ _|exact fldP_ptr _ _ _)|((with_reducible apply y5);(with_reducible assumption);rfl))|((with_reducible refine yc ?_ ?_;apply decide_eq_true);omega)|(with_reducible first|(refine y7 ?_ ?_;exact Bool.not_true)|(apply Wp.callN;assumption)))
  exact Wp.ret ⟨rfl,k1,t1⟩
 ·rw [if_neg hl]
  repeat(first|(with_reducible refine y19 (fun _ _=>?_))|((with_reducible refine ye ?_ ?_ ?_);omega;omega)|(with_reducible refine Wp.lett ?_)|((with_reducible apply Wp.obind);first|(with_reducible first|exact avInt_int _ _|exact avBool_bool _|exact avStr_str _|exact nilC_ptr _ _|exact fldP_ptr _ _ _)|((with_reducible apply y5);(with_reducible assumption);rfl))|((with_reducible refine y7 ?_ ?_);first|(with_reducible exact Bool.not_true)|((with_reducible apply decide_eq_false);omega))|(with_reducible apply Wp.callN;assumption))
  rename_i k33 hk33;exact num_loop hw (by omega) hs hk33 n 0 h (by omega) (by omega) k (Tch.refl _ _)
theorem u64_r(k:PR h b s r)(hok:r.ok s)(hs:s.length≤1000000000)(hn:8<n):∃h',world n (d+3) 60 [.ptr b 0] h=some (.ret (.int .u64 ((rNum s 8 r).1:Int)),h')∧PR h' b s (rNum s 8 r).2∧Tch [b] h h':=by
 obtain⟨h1,e1,k1,t1⟩:=number_r (n:=n) (d:=d) k hok (w:=8) (W:=8) (by omega) hs hn rfl;apply Wp.ex;rw[w_wire_Reader_U64];unfold wire_Reader_U64
 repeat(with_reducible first|(apply Wp.obind;exact avInt_int _ _)|(apply Wp.callN;assumption))
 exact Wp.ret ⟨rfl,k1,t1⟩
theorem u32_r(k:PR h b s r)(hok:r.ok s)(hs:s.length≤1000000000)(hn:8<n):∃h',world n (d+3) 67 [.ptr b 0] h=some (.ret (.int .u32 ((rNum s 4 r).1:Int)),h')∧PR h' b s (rNum s 4 r).2∧Tch [b] h h':=by
 obtain⟨h1,e1,k1,t1⟩:=number_r (n:=n) (d:=d) k hok (w:=4) (W:=4) (by omega) hs hn rfl;have hlt:(rNum s 4 r).1 <4294967296:=rNum_lt (s:=s) (w:=4) (r:=r);apply Wp.ex;rw[w_wire_Reader_U32];unfold wire_Reader_U32
 repeat(first|((with_reducible refine y1b ?_ ?_ ?_);omega;omega)|(with_reducible first|(apply Wp.obind;exact avInt_int _ _)|(apply Wp.callN;assumption)))
 exact Wp.ret ⟨rfl,k1,t1⟩
theorem head_r(k:PR h b s r)(hok:r.ok s)(hs:s.length≤1000000000)(hn:8<n){most:Nat}{M:Int}(hM:M=(most:Int)):∃h',world n (d+4) 70 [.ptr b 0,.int .i64 M] h=some (.ret (.tup [.int .u32 (if r.e=0 then ((rNum s 4 r).1:Int) else 0),.int .i64 (if r.e=0 then (r.p:Int) else 0),.bool (decide ((rNum s 4 r).2.e=0∧(rNum s 4 r).1≤most))]),h')∧PR h' b s (if (rNum s 4 r).2.e=0∧most<(rNum s 4 r).1 then ⟨(rNum s 4 r).2.p,3,(r.p:Int)⟩ else (rNum s 4 r).2)∧Tch [b] h h':=by
 subst hM;obtain⟨h1,e1,k1,t1⟩:=u32_r (n:=n) (d:=d) k hok hs hn;have hlt:(rNum s 4 r).1 <4294967296:=rNum_lt (s:=s) (w:=4) (r:=r);have w0:=whole_w (n:=n) (d:=d+2) k;have w1:=whole_w (n:=n) (d:=d+2) k1;apply Wp.ex;rw[w_wire_Reader_head];unfold wire_Reader_head
 by_cases he:r.e=0
 case neg=>
  rw[decide_eq_false he] at w0;have e2:rNum s 4 r=(0,r):=by unfold rNum;rw[if_pos he]
  rw[e2] at *
  repeat(with_reducible first|refine Wp.lett ?_|(apply Wp.obind;exact avBool_bool _)|(refine yc ?_ ?_;exact Bool.not_false)|(apply Wp.callN;assumption))
  rw[if_neg he,if_neg he,decide_eq_false (fun hh=>he hh.1),if_neg (fun hh=>he hh.1)];exact Wp.ret ⟨rfl,k,Tch.refl _ _⟩
 rw[decide_eq_true he] at w0;rw[if_pos he,if_pos he]
 by_cases he1:(rNum s 4 r).2.e=0
 case neg=>
  rw[decide_eq_false he1] at w1;rw[decide_eq_false (fun hh=>he1 hh.1),if_neg (fun hh=>he1 hh.1)]
  repeat(first|(with_reducible first|(first|refine y25 (fun _ _=>?_)|refine y19 (fun _ _=>?_))|refine Wp.lett ?_)|((with_reducible apply Wp.obind);first|(with_reducible first|exact avInt_int _ _|exact avBool_bool _|exact nilC_ptr _ _|exact fldP_ptr _ _ _)|((with_reducible apply y5);(with_reducible assumption);rfl))|(with_reducible first|(refine y7 ?_ ?_;first|rfl|exact Bool.not_true)|(apply Wp.callN;assumption)|(first|refine y33 (by assumption) ?_|refine y2a (by assumption) ?_)))
  exact Wp.ret ⟨rfl,k1,t1⟩
 rw[decide_eq_true he1] at w1
 by_cases hc:most<(rNum s 4 r).1
 ·obtain ⟨h2, e2, k2, t2⟩ := fail_w (n := n) (d := d + 2) k1 3 (r.p : Int)
  have w2:=whole_w (n:=n) (d:=d+2) k2;rw[decide_eq_false (show ¬(3:Int)=0 by decide)] at w2;rw[decide_eq_false (fun hh=>by omega),if_pos ⟨he1,hc⟩]
  repeat(first|(with_reducible first|refine y25 (fun _ _=>?_)|refine y19 (fun _ _=>?_))|((with_reducible refine ye ?_ ?_ ?_);omega;omega)|(with_reducible refine Wp.lett ?_)|((with_reducible apply Wp.obind);first|(with_reducible first|exact avInt_int _ _|exact avBool_bool _|exact nilC_ptr _ _|exact fldP_ptr _ _ _)|((with_reducible apply y5);(with_reducible assumption);rfl))|((with_reducible refine yc ?_ ?_);first|(with_reducible rfl)|((with_reducible apply decide_eq_true);omega))|(with_reducible first|(refine y7 ?_ ?_;exact Bool.not_true)|(apply Wp.callN;assumption)|(first|refine y33 (by assumption) ?_|refine y2a (by assumption) ?_)))
  exact Wp.ret ⟨rfl,k2,t1.trans t2⟩
 ·rw [decide_eq_true ⟨he1, by omega⟩, if_neg (fun hh => hc hh.2)]
  repeat(first|(with_reducible first|refine y25 (fun _ _=>?_)|refine y19 (fun _ _=>?_))|((with_reducible refine ye ?_ ?_ ?_);omega;omega)|(with_reducible refine Wp.lett ?_)|((with_reducible apply Wp.obind);first|(with_reducible first|exact avInt_int _ _|exact avBool_bool _|exact nilC_ptr _ _|exact fldP_ptr _ _ _)|((with_reducible apply y5);(with_reducible assumption);rfl))|(with_reducible refine yc ?_ ?_;rfl)|((with_reducible refine y7 ?_ ?_);first|(with_reducible exact Bool.not_true)|((with_reducible apply decide_eq_false);omega))|(with_reducible first|(apply Wp.callN;assumption)|(first|refine y33 (by assumption) ?_|refine y2a (by assumption) ?_)))
  exact Wp.ret ⟨rfl,k1,t1⟩
theorem text_r(k:PR h b s r)(hok:r.ok s)(hs:s.length≤1000000000)(hn:8<n){most:Nat}{M:Int}(hM:M=(most:Int)):∃h',world n (d+5) 61 [.ptr b 0,.int .i64 M] h=some (.ret (strA (rText s most r).1),h')∧PR h' b s (rText s most r).2∧Tch [b] h h':=by
 obtain⟨h1,e1,k1,t1⟩:=head_r (n:=n) (d:=d) k hok hs hn hM;have hok1:=rNum_ok (w:=4) hok;have hlt:(rNum s 4 r).1 <4294967296:=rNum_lt (s:=s) (w:=4) (r:=r);unfold RS.ok at hok1 hok;have ll:=lenS_nat s;apply Wp.ex;rw[w_wire_Reader_Text];unfold wire_Reader_Text rText
 by_cases he1:(rNum s 4 r).2.e=0
 case neg=>
  rw[decide_eq_false (fun hh=>he1 hh.1)] at e1;rw[if_neg (fun hh=>he1 hh.1)] at k1;rw[if_pos he1]
  repeat(with_reducible first|refine Wp.lett ?_|(apply Wp.obind;first|exact avInt_int _ _|exact avBool_bool _|exact extT_0 _ _|exact extT_1 _ _ _|exact extT_2 _ _ _ _)|(refine yc ?_ ?_;exact Bool.not_false)|(apply Wp.callN;assumption))
  exact Wp.ret ⟨rfl,k1,t1⟩
 rw[if_neg (by simpa using he1)];have he0:=(rNum_bad he1).1;rw[if_pos he0,if_pos he0] at e1
 by_cases hc:most<(rNum s 4 r).1
 ·rw [decide_eq_false (fun hh => by omega)] at e1
  rw[if_pos ⟨he1,hc⟩] at k1;rw[if_pos hc]
  repeat(with_reducible first|refine Wp.lett ?_|(apply Wp.obind;first|exact avInt_int _ _|exact avBool_bool _|exact extT_0 _ _|exact extT_1 _ _ _|exact extT_2 _ _ _ _)|(refine yc ?_ ?_;exact Bool.not_false)|(apply Wp.callN;assumption))
  exact Wp.ret ⟨rfl,k1,t1⟩
 rw[decide_eq_true ⟨he1,by omega⟩] at e1;rw[if_neg (fun hh=>hc hh.2)] at k1;rw[if_neg hc]
 by_cases hl:s.length<(rNum s 4 r).2.p+(rNum s 4 r).1
 ·obtain ⟨h2, e2, k2, t2⟩ := fail_w (n := n) (d := d + 3) k1 7 (r.p : Int)
  rw[if_pos hl]
  repeat(first|((with_reducible refine ye ?_ ?_ ?_);omega;omega)|(with_reducible refine Wp.lett ?_)|((with_reducible apply Wp.obind);first|(with_reducible first|exact avInt_int _ _|exact avBool_bool _|exact avStr_str _|exact nilC_ptr _ _|exact fldP_ptr _ _ _|exact extT_0 _ _|exact extT_1 _ _ _|exact extT_2 _ _ _ _)|((with_reducible apply y5);(with_reducible assumption);rfl))|((with_reducible refine yc ?_ ?_;apply decide_eq_true);omega)|(with_reducible first|(refine y7 ?_ ?_;exact Bool.not_true)|(apply Wp.callN;assumption)))
  exact Wp.ret ⟨rfl,k2,t1.trans t2⟩
 ·rw [if_neg hl]
  repeat(first|((with_reducible refine ye ?_ ?_ ?_);omega;omega)|(with_reducible refine Wp.lett ?_)|((with_reducible apply Wp.obind);first|(with_reducible first|exact avInt_int _ _|exact avBool_bool _|exact avStr_str _|exact nilC_ptr _ _|exact fldP_ptr _ _ _|exact extT_0 _ _|exact extT_1 _ _ _|exact extT_2 _ _ _ _)|((with_reducible apply y5);(with_reducible assumption);rfl))|((with_reducible refine y7 ?_ ?_);first|(with_reducible exact Bool.not_true)|((with_reducible apply decide_eq_false);omega))|(with_reducible apply Wp.callN;assumption))
  refine Wp.st1 k1 (show 1<4 by decide) rfl (fun h2 k2 t2 _=>?_)
  have e3:(rdC s (rNum s 4 r).2).set 1 (.int .i64 (((rNum s 4 r).2.p:Int)+((rNum s 4 r).1:Int)))=rdC s ⟨(rNum s 4 r).2.p+(rNum s 4 r).1,(rNum s 4 r).2.e,(rNum s 4 r).2.q⟩:=by
   rw[←Int.natCast_add];rfl
  rw[e3] at k2;have hsl:=sliceS_nat (l:=s) (a:=(rNum s 4 r).2.p) (b:=(rNum s 4 r).2.p+(rNum s 4 r).1) (by omega) (by omega);rw[Nat.add_sub_cancel_left] at hsl
  repeat(((with_reducible apply Wp.obind);first|(with_reducible first|exact avInt_int _ _|exact avStr_str _|exact nilC_ptr _ _|exact fldP_ptr _ _ _|assumption)|((with_reducible apply y5);(with_reducible assumption);rfl)))
  exact Wp.ret ⟨rfl,k2,t1.trans t2⟩
theorem fault_r(k:PR h b s r)(hb:b<h.next):∃h',world n (d+1) 73 [.ptr b 0] h=some (.ret (.agg [.int .i64 r.e,.int .i64 r.q]),h')∧Tch [] h h':=by
 apply Wp.ex;rw[w_wire_Reader_Fault];unfold wire_Reader_Fault;have t0:Tch [] h (newH h 128 [.int .i64 0,.int .i64 0]):=Tch.newH _ _ _ _;have k0:=k.tch t0 hb (by simp);have kr:=RowH.new h 128 [.int .i64 0,.int .i64 0]
 repeat(first|(with_reducible first|refine Wp.lett ?_|(apply Wp.obind;first|exact avBool_bool _|exact nilC_ptr _ _|exact fldP_ptr _ _ _)|(refine y7 ?_ ?_;rfl)|(apply Wp.outK;exact eql72 _ _))|rw[newP_eq])
 refine Wp.obind (k0.ld (o:=0+2) (n:=2) (show 0+2+2≤4 by decide)) (Wp.stAll kr rfl rfl rfl (fun h1 k1 t1 _=>?_))
 repeat(((with_reducible apply Wp.obind);((with_reducible apply RowH.ldAll);(with_reducible assumption);rfl)))
 exact Wp.ret ⟨rfl,t0.trans' t1 (by intro b hb;simp at hb;subst hb;exact .inr (Nat.le_refl _))⟩
theorem end_r(k:PR h b s r)(hb:b<h.next):∃h',world n (d+2) 62 [.ptr b 0] h=some (.ret (.agg [.int .i64 (rEnd s r).1,.int .i64 (rEnd s r).2]),h')∧Tch [] h h':=by
 apply Wp.ex;rw[w_wire_Reader_End];unfold wire_Reader_End rEnd;have t0:Tch [] h (newH h 128 [.int .i64 0,.int .i64 0]):=Tch.newH _ _ _ _;have k0:=k.tch t0 hb (by simp);have kr:=RowH.new h 128 [.int .i64 0,.int .i64 0];have nr:=next_newH h 128 [.int .i64 0,.int .i64 0];have hw:=whole_w (n:=n) (d:=d) k0;obtain⟨h1,e1,t1⟩:=fault_r (n:=n) (d:=d) k0 (by omega);have k1:=kr.tch t1 (by omega) (by simp);have ll:=lenS_nat s
 by_cases hc:r.e=0∧r.p<s.length
 ·rw [decide_eq_true hc.1] at hw
  obtain⟨hc1,hc2⟩:=hc;rw[if_pos ⟨hc1,hc2⟩]
  repeat(first|(with_reducible first|refine y19 (fun _ _=>?_)|refine Wp.lett ?_)|((with_reducible apply Wp.obind);first|(with_reducible first|exact avInt_int _ _|exact avBool_bool _|exact avStr_str _|exact nilC_ptr _ _|exact fldP_ptr _ _ _)|((with_reducible apply y5);(with_reducible assumption);rfl))|((with_reducible refine yc ?_ ?_);first|(with_reducible rfl)|((with_reducible apply decide_eq_true);omega))|(with_reducible first|(apply Wp.callN;assumption)|refine y2a (by assumption) ?_)|rw[newP_eq])
  refine Wp.stAll kr rfl rfl rfl (fun h2 k2 t2 _=>?_)
  repeat(((with_reducible apply Wp.obind);((with_reducible apply RowH.ldAll);(with_reducible assumption);rfl)))
  exact Wp.ret ⟨rfl,t0.trans' t2 (by intro b hb;simp at hb;subst hb;exact .inr (Nat.le_refl _))⟩
 ·rw [if_neg hc]
  by_cases he:r.e=0
  ·rw [decide_eq_true he] at hw
   repeat(first|(with_reducible first|refine y19 (fun _ _=>?_)|refine Wp.lett ?_)|((with_reducible apply Wp.obind);first|(with_reducible first|exact avInt_int _ _|exact avBool_bool _|exact avStr_str _|exact nilC_ptr _ _|exact fldP_ptr _ _ _|exact avAgg_agg _)|((with_reducible apply y5);(with_reducible assumption);rfl))|(with_reducible refine yc ?_ ?_;rfl)|((with_reducible refine y7 ?_ ?_;apply decide_eq_false);omega)|(with_reducible first|(apply Wp.callN;assumption)|refine y2a (by assumption) ?_)|rw[newP_eq])
   refine Wp.stAll k1 rfl rfl rfl (fun h2 k2 t2 _=>?_)
   repeat(((with_reducible apply Wp.obind);((with_reducible apply RowH.ldAll);(with_reducible assumption);rfl)))
   exact Wp.ret ⟨rfl,(t0.trans t1).trans' t2 (by intro b hb;simp at hb;subst hb;exact .inr (Nat.le_refl _))⟩
  ·rw [decide_eq_false he] at hw
   repeat(first|(with_reducible first|refine y19 (fun _ _=>?_)|refine Wp.lett ?_|(apply Wp.obind;first|exact avBool_bool _|exact avAgg_agg _)|(refine y7 ?_ ?_;rfl)|(apply Wp.callN;assumption)|refine y2a (by assumption) ?_)|rw[newP_eq])
   refine Wp.stAll k1 rfl rfl rfl (fun h2 k2 t2 _=>?_)
   repeat(((with_reducible apply Wp.obind);((with_reducible apply RowH.ldAll);(with_reducible assumption);rfl)))
   exact Wp.ret ⟨rfl,(t0.trans t1).trans' t2 (by intro b hb;simp at hb;subst hb;exact .inr (Nat.le_refl _))⟩
end
namespace Crc
def poly:Nat:=2197175160
def ones:Nat:=4294967295
def U32(x:Nat):Prop:=x<2 ^ 32
def sh(x:Nat):Nat:=(x/2) ^^^ (if x%2=1 then poly else 0)
def shN:Nat→Nat→Nat
 |0,x=>x
 |n+1,x=>shN n (sh x)
def stp(x b:Nat):Nat:=sh (x ^^^ b)
def stps:List Nat→Nat→Nat
 |[],x=>x
 |b::l,x=>stps l (stp x b)
def bits8(x:Nat):List Nat:=[x%2,x/2%2,x/4%2,x/8%2,x/16%2,x/32%2,x/64%2,x/128%2]
def bitsOf:List UInt8→List Nat
 |[]=>[]
 |x::l=>bits8 x.toNat++bitsOf l
def more(from_:Nat)(l:List UInt8):Nat:=ones ^^^ stps (bitsOf l) (ones ^^^ from_)
def of(l:List UInt8):Nat:=more 0 l
theorem poly_lt:U32 poly:=by unfold U32 poly;decide
theorem ones_lt:U32 ones:=by unfold U32 ones;decide
theorem xor_lt{x y:Nat}(hx:U32 x)(hy:U32 y):U32 (x ^^^ y):=Nat.xor_lt_two_pow hx hy
theorem sh_lt{x:Nat}(hx:U32 x):U32 (sh x):=by
 unfold sh;refine xor_lt ?_ ?_
 ·unfold U32 at *;omega
 ·split
  ·exact poly_lt
  ·unfold U32;decide
theorem shN_lt:∀{n x:Nat},U32 x→U32 (shN n x)
 |0,_,h=>h
 |n+1,_,h=>shN_lt (n:=n) (sh_lt h)
theorem bit_lt{b:Nat}(h:b<2):U32 b:=by unfold U32;omega
theorem stps_lt:∀{l:List Nat} {x:Nat},U32 x→(∀b∈l,b<2)→U32 (stps l x)
 |[],_,h,_=>h
 |b::l,x,h,hb=>stps_lt (l:=l) (sh_lt (xor_lt h (bit_lt (hb b (by simp))))) (fun c hc=>hb c (by simp[hc]))
theorem bits8_lt(x:Nat):∀b∈bits8 x,b<2:=by
 intro b hb;simp only[bits8,List.mem_cons,List.not_mem_nil,or_false] at hb;omega
theorem bitsOf_lt(l:List UInt8):∀b∈bitsOf l,b<2:=by
 induction l with
 |nil=>intro b hb;simp[bitsOf] at hb
 |cons x l ih=>
  intro b hb
  rcases List.mem_append.1 hb with h|h
  ·exact bits8_lt _ b h
  ·exact ih b h
theorem more_lt{a:Nat}(l:List UInt8)(ha:U32 a):U32 (more a l):=xor_lt ones_lt (stps_lt (xor_lt ones_lt ha) (bitsOf_lt l))
theorem of_lt(l:List UInt8):U32 (of l):=more_lt l (by unfold U32;decide)
theorem mod_xor(x y:Nat):(x ^^^ y)%2=(x%2+y%2)%2:=by
 have hx:=Nat.mod_two_eq_zero_or_one x;have hy:=Nat.mod_two_eq_zero_or_one y;have hz:=Nat.mod_two_eq_zero_or_one (x ^^^ y);have h:=Nat.testBit_xor x y 0;simp only[Nat.testBit_zero] at h
 rcases hx with hx|hx<;>rcases hy with hy|hy<;>rcases hz with hz|hz<;>simp[hx,hy,hz] at h ⊢
theorem div_xor(x y:Nat):(x ^^^ y)/2=(x/2) ^^^ (y/2):=Nat.xor_div_two
theorem sh_xor(x y:Nat):sh (x ^^^ y)=sh x ^^^ sh y:=by
 unfold sh;rw[div_xor,mod_xor];have hx:=Nat.mod_two_eq_zero_or_one x;have hy:=Nat.mod_two_eq_zero_or_one y
 have e:(if (x%2+y%2)%2=1 then poly else 0)=(if x%2=1 then poly else 0) ^^^ (if y%2=1 then poly else 0):=by
  rcases hx with hx|hx<;>rcases hy with hy|hy<;>simp[hx,hy]
 rw[e]
 ac_rfl
theorem shN_xor:∀(n x y:Nat),shN n (x ^^^ y)=shN n x ^^^ shN n y
 |0,_,_=>rfl
 |n+1,x,y=>by
  show shN n (sh (x ^^^ y))=shN n (sh x) ^^^ shN n (sh y);rw[sh_xor,shN_xor n]
theorem shN_add:∀(m n x:Nat),shN (m+n) x=shN n (shN m x)
 |0,n,x=>by rw[Nat.zero_add];rfl
 |m+1,n,x=>by
  rw[Nat.add_right_comm];exact shN_add m n (sh x)
theorem stps_append:∀(l m:List Nat) (x:Nat),stps (l++m) x=stps m (stps l x)
 |[],_,_=>rfl
 |b::l,m,x=>stps_append l m (stp x b)
theorem bitsOf_append(l m:List UInt8):bitsOf (l++m)=bitsOf l++bitsOf m:=by
 induction l with
 |nil=>rfl
 |cons x l ih=>simp[bitsOf,ih]
def word:List Nat→Nat
 |[]=>0
 |b::l=>b+2*word l
theorem sh_double(x:Nat):sh (2*x)=x:=by
 unfold sh;rw[if_neg (by omega),Nat.xor_zero];omega
theorem add_eq_xor{b x:Nat}(hb:b<2):b+2*x=b ^^^ (2*x):=by
 have h1:=div_xor b (2*x);have h2:=mod_xor b (2*x);have e1:2*x/2=x:=by omega
 have e2:b/2=0:=by omega
 rw[e1,e2,Nat.zero_xor] at h1;omega
theorem stps_word:∀(l:List Nat) (x:Nat),(∀b∈l,b<2)→stps l x=shN l.length (x ^^^ word l)
 |[],x,_=>by simp[stps,shN,word]
 |b::l,x,h=>by
  show stps l (sh (x ^^^ b))=shN l.length (sh (x ^^^ (b+2*word l)));rw[stps_word l _ (fun c hc=>h c (by simp[hc])),add_eq_xor (h b (by simp)), ←Nat.xor_assoc,sh_xor (x ^^^ b),sh_double]
def halves:List Nat:=[0,274646895,549293790,820201905,1098587580,1361435347,1640403810,1905808397,2197175160,2460548119,2722870694,2987750089,3280807620,3553878443,3811616794,4084100981]
theorem halves_eq:halves=(List.range 16).map (shN 4):=by decide+kernel
theorem halves_get(j:Nat)(h:j<16):halves[j]? =some (shN 4 j):=by
 rw[halves_eq,List.getElem?_map,List.getElem?_range h];rfl
theorem low_xor(q r:Nat)(hr:r<16):16*q+r=(16*q) ^^^ r:=by
 have h:=Nat.two_pow_add_eq_or_of_lt (i:=4) (b:=r) (by simpa using hr) q;have e:(2:Nat) ^ 4=16:=by decide
 rw[e] at h;rw[h];apply Nat.eq_of_testBit_eq;intro i;rw[Nat.testBit_or,Nat.testBit_xor]
 by_cases hi:i<4
 ·have : (16 * q).testBit i = false := by
   rw[show 16*q=2 ^ 4*q from by rw[e],Nat.testBit_two_pow_mul]
   simp;omega
  rw[this];simp
 ·have : r.testBit i = false := Nat.testBit_lt_two_pow (Nat.lt_of_lt_of_le hr (by rw [← e]; exact Nat.pow_le_pow_right (by omega) (by omega)))
  rw[this];simp
theorem shN4_high(q:Nat):shN 4 (16*q)=q:=by
 show sh (sh (sh (sh (16*q))))=q;rw[show 16*q=2*(2*(2*(2*q))) from by omega,sh_double,sh_double,sh_double,sh_double]
theorem nib(x:Nat):shN 4 x=(x/16) ^^^ shN 4 (x%16):=by
 conv=>lhs;rw[show x=16*(x/16)+x%16 from by omega,low_xor _ _ (Nat.mod_lt _ (by omega)),shN_xor,shN4_high]
theorem word_bits8(b:Nat)(h:b<256):word (bits8 b)=b:=by
 simp only[word,bits8];omega
theorem stps_byte(b x:Nat)(h:b<256):stps (bits8 b) x=shN 4 (shN 4 (x ^^^ b)):=by
 rw[stps_word _ _ (bits8_lt b),word_bits8 b h, ←shN_add];rfl
end Crc
open Go.RowKit Abs
theorem xorI32{x y:Nat}(hx:x<4294967296)(hy:y<4294967296):xorI .u32 (x:Int) (y:Int)=((x ^^^ y:Nat):Int):=by
 have hz:x ^^^ y<2 ^ 32:=Nat.xor_lt_two_pow (by omega) (by omega)
 have h1:(BitVec.ofInt 32 (x:Int)).toNat=x:=by
  rw[BitVec.ofInt_natCast,BitVec.toNat_ofNat];exact Nat.mod_eq_of_lt (by omega)
 have h2:(BitVec.ofInt 32 (y:Int)).toNat=y:=by
  rw[BitVec.ofInt_natCast,BitVec.toNat_ofNat];exact Nat.mod_eq_of_lt (by omega)
 show IntKind.u32.wrap ((BitVec.ofInt 32 (x:Int) ^^^ BitVec.ofInt 32 (y:Int)).toNat:Int)=_;rw[BitVec.toNat_xor,h1,h2,wrap_u32_mod];omega
theorem comI32{x:Nat}(hx:x<4294967296):comI .u32 (x:Int)=((Crc.ones ^^^ x:Nat):Int):=xorI32 (x:=4294967295) (by omega) hx
theorem crc_lt(l:Bytes):Crc.of l<4294967296:=Crc.of_lt l
abbrev TH16:Nat:=151
noncomputable def halfV:List AV:=Crc.halves.map fun (m:Nat)=>.int .u32 (m:Int)
theorem halfV_get{j:Nat}(hj:j<16):halfV[j]? =some (.int .u32 ((Crc.shN 4 j:Nat):Int)):=by
 unfold halfV;rw[List.getElem?_map,Crc.halves_get j hj];rfl
theorem bitsOf_take{s:Bytes}{k:Nat}(h:k<s.length)(x0:Nat):Crc.stps (Crc.bitsOf (s.take (k+1))) x0=Crc.shN 4 (Crc.shN 4 (Crc.stps (Crc.bitsOf (s.take k)) x0 ^^^ s[k].toNat)):=by
 rw[List.take_succ_eq_append_getElem h,Crc.bitsOf_append,Crc.stps_append,show Crc.bitsOf [s[k]]=Crc.bits8 s[k].toNat by simp[Crc.bitsOf],Crc.stps_byte _ _ s[k].toNat_lt]
theorem nibI{Y:Nat}(hY:Y<4294967296):xorI .u32 ((Y/16:Nat):Int) ((Crc.shN 4 (Y%16):Nat):Int)=((Crc.shN 4 Y:Nat):Int):=by
 have h:=xorI32 (x:=Y/16) (y:=Crc.shN 4 (Y%16)) (by omega) (Crc.shN_lt (show Crc.U32 (Y%16) by unfold Crc.U32;omega));rw[←Crc.nib] at h;exact h
section
variable {n d:Nat}{h H:AHeap}{s:Bytes}{Q:ARes→AHeap→Prop}{x0:Nat}
theorem more_loop(hx0:x0<4294967296)(hs:s.length<1000000000)(kr:RowH H h.next TH16 halfV){k13:Int→AHeap→R}(hk:Wp (k13 ((Crc.stps (Crc.bitsOf s) x0:Nat):Int) H) Q):
  ∀(r i fu X:Nat),r+i=s.length→r<fu→X=Crc.stps (Crc.bitsOf (s.take i)) x0→Wp (sum_More_L0 s h k13 fu (X:Int) (i:Int) H) Q
 |_,_,0,_,_,hf,_=>by omega
 |0,i,fu+1,X,hi,_,hX=>by
  have ll:=lenS_nat s;rw[sum_More_L0_s];unfold sum_More_L0b;refine Wp.lett (y7 (by rw[decide_eq_false_iff_not];omega) ?_);rw[List.take_of_length_le (by omega)] at hX;rw[hX];exact hk
 |r+1,i,fu+1,X,hi,hf,hX=>by
  have ll:=lenS_nat s;have hil:i<s.length:=by omega
  have hXl:X<4294967296:=by
   rw[hX];exact Crc.stps_lt hx0 (Crc.bitsOf_lt _)
  have hb:=s[i].toNat_lt;have l1:X ^^^ s[i].toNat <4294967296:=Nat.xor_lt_two_pow (n:=32) hXl (by omega);have l2:Crc.shN 4 (X ^^^ s[i].toNat)<4294967296:=Crc.shN_lt l1
  have e1:∀Y:Nat,shrI .u32 (Y:Int) 4=some ((Y/16:Nat):Int):=fun Y=>by
   have:shrI .u32 (Y:Int) 4=some ((Y:Int).fdiv 16):=rfl;rw[this,Int.fdiv_eq_ediv_of_nonneg _ (by omega)];rfl
  have e2:∀Y:Nat,remI .u32 (Y:Int) 16=some ((Y%16:Nat):Int):=fun Y=>rfl
  have e3:∀j:Nat,j<16→idxA 16 1 (newP h) (j:Int)=some (.ptr h.next j):=fun j hj=>by
   have:idxA 16 1 (newP h) (j:Int)=(match Nat.blt j 16 with|true=>some (AV.ptr h.next (0+j*1))|false=>none):=rfl;rw[this,show Nat.blt j 16=true by simpa using hj,Nat.zero_add,Nat.mul_one]
  rw[sum_More_L0_s];unfold sum_More_L0b;refine Wp.lett (yc (by rw[decide_eq_true_eq];omega) (Wp.obind (idxS_nat hil) (y1b (by omega) (by omega) (Wp.lett ?_))));rw[xorI32 hXl (by omega)];refine Wp.obind (e1 _) (Wp.obind (e2 _) (Wp.obind (e3 _ (Nat.mod_lt _ (by decide))) (Wp.obind (y5 kr (halfV_get (Nat.mod_lt _ (by decide)))) (Wp.obind (avInt_int _ _) (Wp.lett ?_)))));rw[nibI l1];refine Wp.obind (e1 _) (Wp.obind (e2 _) (Wp.obind (e3 _ (Nat.mod_lt _ (by decide))) (Wp.obind (y5 kr (halfV_get (Nat.mod_lt _ (by decide)))) (Wp.obind (avInt_int _ _) (Wp.lett ?_)))));rw[nibI l2];refine ye (by omega) (by omega) ?_;rw[show (i:Int)+1=((i+1:Nat):Int) by omega];exact more_loop hx0 hs kr hk r (i+1) fu _ (by omega) (by omega) (by rw[bitsOf_take hil,hX])
theorem more_w{a:Nat}(ha:a<4294967296)(hs:s.length<1000000000)(hn:s.length<n):world n (d+1) 79 [.int .u32 (a:Int),strA s] h=some (.ret (.int .u32 ((Crc.more a s:Nat):Int)),h):=by
 apply Wp.eq;rw[w_sum_More];refine y3d ?_;unfold sum_More;refine Wp.obind (a:=halfV) (by kernel_rfl) (y11 (Mem.nil [] h) fun h2 M2=>?_);rw[newP_eq];refine y1a M2 (by kernel_rfl) rfl (by kernel_rfl) fun h3 M3=>Wp.lett (y8 fun k13 e13=>?_);have ho:Crc.ones ^^^ a<4294967296:=Crc.xor_lt Crc.ones_lt ha;rw[comI32 ha];refine more_loop ho hs M3.at0.1 ?_ s.length 0 n _ (Nat.add_zero _) hn rfl;rw[e13];dsimp only;rw[comI32 (Crc.stps_lt ho (Crc.bitsOf_lt _))];exact Wp.lett (Wp.ret ⟨M3.tch.above,rfl,rfl,rfl⟩)
theorem sum_w(hs:s.length<1000000000)(hn:s.length<n):world n (d+2) 78 [strA s] h=some (.ret (.int .u32 ((Crc.of s:Nat):Int)),h):=by
 apply Wp.eq;rw[w_sum_Of];refine Wp.gc' ?_;unfold sum_Of;exact Wp.callN (more_w (n:=n) (d:=d) (a:=0) (by omega) hs hn) (Wp.obind (avInt_int _ _) (Wp.ret ⟨⟨rfl,rfl⟩,fun _=>⟨rfl,rfl⟩⟩))
end
theorem numB_val:∀(w v:Nat),v<256 ^ w→valB (numB w v)=v
 |0,v,h=>by
  have:v=0:=by simpa using h
  subst this;rfl
 |w+1,v,h=>by
  have ih:=numB_val w (v/256) (by rw[Nat.pow_succ] at h;omega);unfold numB;unfold valB at ih ⊢;rw[valF_append,ih];show v/256*256+(UInt8.ofNat (v%256)).toNat=v;have:=byte_of v;omega
theorem numB_of:∀(w:Nat) (l:Bytes),l.length=w→numB w (valB l)=l
 |0,l,h=>by rw[List.length_eq_zero_iff.1 h];rfl
 |w+1,l,h=>by
  have hne:l≠[]:=fun e=>by subst e;cases h
  obtain⟨k,b,rfl⟩:∃k b,l=k++[b]:=⟨l.dropLast,l.getLast hne,(List.dropLast_concat_getLast hne).symm⟩;rw[List.length_append,List.length_singleton] at h;have ih:=numB_of w k (by omega)
  have hv:valB (k++[b])=valB k*256+b.toNat:=by
   unfold valB;rw[valF_append];rfl
  have hb:=b.toNat_lt;unfold numB;rw[hv,show (valB k*256+b.toNat)/256=valB k by omega,ih,show (valB k*256+b.toNat)%256=b.toNat by omega,UInt8.ofNat_toNat]
theorem numB_iff{w v:Nat}{l:Bytes}(hv:v<256 ^ w)(hl:l.length=w):numB w v=l↔valB l=v:=by
 constructor
 ·intro e
  rw[←e];exact numB_val w v hv
 ·intro e
  rw[←e];exact numB_of w l hl
def wholeB(u:Bytes):Bool:=valB (u.drop (u.length - 4)) == Crc.of (u.take (u.length - 4))
def frameB(p:Bytes):Bytes:=numB 4 p.length++numB 4 (Crc.of (numB 4 p.length))++(p++numB 4 (Crc.of p))
def takeR(s:Bytes):Bytes×Nat×Int:=
 if s.length<8 then ([],0,30) else if 4096<valB (s.take 4)∨wholeB (s.take 8)=false then ([],0,7)
 else if s.length<valB (s.take 4)+12 then ([],0,30) else if wholeB ((s.drop 8).take (valB (s.take 4)+4))=false then ([],0,7)
 else ((s.drop 8).take (valB (s.take 4)),valB (s.take 4)+12,0)
theorem frameB_length(p:Bytes):(frameB p).length=p.length+12:=by
 unfold frameB;rw[List.length_append,List.length_append,List.length_append,numB_length,numB_length,numB_length];omega
theorem takeR_ok{s:Bytes}(h:(takeR s).2.2=0):8≤s.length∧valB (s.take 4)≤4096∧wholeB (s.take 8)=true∧valB (s.take 4)+12≤s.length∧wholeB ((s.drop 8).take (valB (s.take 4)+4))=true∧takeR s=((s.drop 8).take (valB (s.take 4)),valB (s.take 4)+12,0):=by
 unfold takeR at h ⊢
 by_cases h1:s.length<8
 ·rw [if_pos h1] at h
  cases h
 rw[if_neg h1] at h ⊢
 by_cases h2:4096<valB (s.take 4)∨wholeB (s.take 8)=false
 ·rw [if_pos h2] at h
  cases h
 rw[if_neg h2] at h ⊢
 by_cases h3:s.length<valB (s.take 4)+12
 ·rw [if_pos h3] at h
  cases h
 rw[if_neg h3] at h ⊢
 by_cases h4:wholeB ((s.drop 8).take (valB (s.take 4)+4))=false
 ·rw [if_pos h4] at h
  cases h
 rw[if_neg h4];have h5:wholeB (s.take 8)≠false:=fun e=>h2 (.inr e);have h6:¬4096<valB (s.take 4):=fun e=>h2 (.inl e);exact⟨by omega,by omega,by simpa using h5,by omega,by simpa using h4,rfl⟩
theorem takeR_len{s:Bytes}(h:(takeR s).2.2=0):(takeR s).2.1≤s.length∧12≤(takeR s).2.1∧(takeR s).1.length+12=(takeR s).2.1∧(takeR s).1.length≤4096:=by
 obtain⟨h1,h2,_,h4,_,e⟩:=takeR_ok h;rw[e];refine⟨h4,by show 12≤valB (s.take 4)+12;omega,?_,?_⟩
 ·show ((s.drop 8).take (valB (s.take 4))).length + 12 = valB (s.take 4) + 12
  rw[List.length_take,List.length_drop];omega
 ·show ((s.drop 8).take (valB (s.take 4))).length ≤ _
  rw[List.length_take];omega
def scanF:Nat→Bytes→List Bytes×Nat
 |0,_=>([],0)
 |f+1,s=>if (takeR s).2.2=0 then ((takeR s).1::(scanF f (s.drop (takeR s).2.1)).1,(takeR s).2.1+(scanF f (s.drop (takeR s).2.1)).2) else ([],0)
def scanR(s:Bytes):List Bytes×Nat:=scanF (s.length+1) s
theorem scanF_any:∀(f g:Nat) (s:Bytes),s.length<f→s.length<g→scanF f s=scanF g s
 |0,_,_,h,_=>by omega
 |_,0,_,_,h=>by omega
 |f+1,g+1,s,hf,hg=>by
  unfold scanF
  split
  ·rename_i h
   have hl:=takeR_len h;rw[scanF_any f g (s.drop (takeR s).2.1) (by rw[List.length_drop];omega) (by rw[List.length_drop];omega)]
  ·rfl
theorem scanR_bad{s:Bytes}(h:(takeR s).2.2≠0):scanR s=([],0):=by
 unfold scanR scanF;rw[if_neg h]
theorem scanR_ok{s:Bytes}(h:(takeR s).2.2=0):scanR s=((takeR s).1::(scanR (s.drop (takeR s).2.1)).1,(takeR s).2.1+(scanR (s.drop (takeR s).2.1)).2):=by
 have hl:=takeR_len h;unfold scanR;rw[scanF,if_pos h,scanF_any s.length ((s.drop (takeR s).2.1).length+1) (s.drop (takeR s).2.1) (by rw[List.length_drop];omega) (by omega)]
theorem wholeB_iff{u:Bytes}(hu:4≤u.length):wholeB u=true↔numB 4 (Crc.of (u.take (u.length - 4)))=u.drop (u.length - 4):=by
 unfold wholeB;rw[beq_iff_eq,numB_iff (by exact crc_lt _) (by rw[List.length_drop];omega)]
theorem take_frame{s:Bytes}(h:(takeR s).2.2=0):s.take (takeR s).2.1=frameB (takeR s).1:=by
 obtain⟨h1,h2,h3,h4,h5,e⟩:=takeR_ok h;rw[e];show s.take (valB (s.take 4)+12)=frameB ((s.drop 8).take (valB (s.take 4)));have hl4:(s.take 4).length=4:=by rw[List.length_take];omega
 have hl8:(s.take 8).length=8:=by rw[List.length_take];omega
 have hpl:((s.drop 8).take (valB (s.take 4))).length=valB (s.take 4):=by rw[List.length_take,List.length_drop];omega
 have hql:((s.drop 8).take (valB (s.take 4)+4)).length=valB (s.take 4)+4:=by rw[List.length_take,List.length_drop];omega
 have w1:=(wholeB_iff (by omega)).1 h3;have w2:=(wholeB_iff (by omega)).1 h5;rw[hl8,List.take_take] at w1;rw[hql,List.take_take,Nat.add_sub_cancel,Nat.min_eq_left (Nat.le_add_right _ _)] at w2;have e4:numB 4 (valB (s.take 4))=s.take 4:=numB_of 4 _ hl4;unfold frameB;rw[hpl,e4,w2];have w1:numB 4 (Crc.of (s.take 4))=(s.take 8).drop 4:=w1;rw[w1]
 have a1:s.take 4++(s.take 8).drop 4=s.take 8:=by
  have:=List.take_append_drop 4 (s.take 8);rw[List.take_take] at this;exact this
 have a2:(s.drop 8).take (valB (s.take 4))++((s.drop 8).take (valB (s.take 4)+4)).drop (valB (s.take 4))=(s.drop 8).take (valB (s.take 4)+4):=by
  have:=List.take_append_drop (valB (s.take 4)) ((s.drop 8).take (valB (s.take 4)+4));rw[List.take_take,Nat.min_eq_left (Nat.le_add_right _ _)] at this;exact this
 rw[a1,a2,show valB (s.take 4)+12=8+(valB (s.take 4)+4) by omega,List.take_add]
theorem frame_take{p rest:Bytes}(hp:p.length≤4096):takeR (frameB p++rest)=(p,p.length+12,0):=by
 have hl:=frameB_length p;have l4:(numB 4 p.length).length=4:=numB_length _ _;have c4:∀x:Bytes,(numB 4 (Crc.of x)).length=4:=fun x=>numB_length _ _
 have t4:(frameB p++rest).take 4=numB 4 p.length:=by
  unfold frameB;rw[List.append_assoc,List.append_assoc,List.take_append_of_le_length (by omega),List.take_of_length_le (by omega)]
 have t8:(frameB p++rest).take 8=numB 4 p.length++numB 4 (Crc.of (numB 4 p.length)):=by
  unfold frameB;rw[List.append_assoc,List.take_left' (by rw[List.length_append,l4,c4])]
 have d8:(frameB p++rest).drop 8=p++numB 4 (Crc.of p)++rest:=by
  unfold frameB;rw[List.append_assoc,List.drop_left' (by rw[List.length_append,l4,c4])]
 have hv:valB ((frameB p++rest).take 4)=p.length:=by
  rw[t4];exact numB_val 4 _ (by have:256 ^ 4=4294967296:=rfl;omega)
 have w1:wholeB ((frameB p++rest).take 8)=true:=by
  rw[t8,wholeB_iff (by rw[List.length_append,l4,c4];omega),List.length_append,l4,c4];rw[List.take_left' l4,List.drop_left' l4]
 have w2:wholeB (((frameB p++rest).drop 8).take (p.length+4))=true:=by
  rw[d8,List.take_left' (by rw[List.length_append,c4]),wholeB_iff (by rw[List.length_append,c4];omega),List.length_append,c4,Nat.add_sub_cancel];rw[List.take_left' rfl,List.drop_left' rfl]
 unfold takeR;rw[hv,w1,w2,if_neg (by rw[List.length_append];omega),if_neg (by simp;omega),if_neg (by rw[List.length_append];omega),if_neg (by decide),d8,List.append_assoc,List.take_left' rfl]
section
variable {n d:Nat}{h:AHeap}{s p:Bytes}{Q:ARes→AHeap→Prop}
theorem new_r(s:Bytes)(h:AHeap):∃h',world n (d+1) 59 [strA s] h=some (.ret (.ptr h.next 0),h')∧PR h' h.next s ⟨0,0,0⟩∧h.next<h'.next∧Tch [] h h':=by
 suffices hK:Wp (world n (d+1) 59 [strA s] h) fun r h'=>r=.ret (.ptr h.next 0)∧PR h' h.next s ⟨0,0,0⟩∧h.next<h'.next∧Tch [] h h' by
  obtain⟨_,h',e,rfl,k⟩:=hK;exact⟨h',e,k⟩
 rw[w_wire_New];refine Wp.gcn ?_;unfold wire_New;exact y17 (Mem.nil [] h) rfl fun h2 M2=>Wp.ret ⟨Bool.eq_false_iff.2 (fun e=>by have:=Nat.le_of_ble_eq_true (show Nat.ble (h.next+1) h.next=true from e);omega),rfl,M2.at0.1,M2.at0.2.1,M2.tch⟩
theorem fwhole_w(hu:4≤s.length)(hs:s.length<1000000000)(hn:s.length<n)(hn8:8<n):world n (d+4) 68 [strA s] h=some (.ret (.bool (wholeB s)),h):=by
 have ll:=lenS_nat s
 have s1:sliceS s (lenS s - 4) (lenS s)=some (s.drop (s.length - 4)):=by
  rw[sliceS_int (by omega) (by omega) (by omega),List.take_of_length_le (by rw[List.length_drop];omega)]
  congr 2
  omega
 have s2:sliceS s 0 (lenS s - 4)=some (s.take (s.length - 4)):=by
  rw[sliceS_int (by omega) (by omega) (by omega)];show some ((s.drop 0).take _)=_;rw[List.drop_zero]
  congr 2
  omega
 have hl4:(s.drop (s.length - 4)).length=4:=by rw[List.length_drop];omega
 obtain⟨h1,e1,k1,l1,t1⟩:=new_r (n:=n) (d:=d+2) (s.drop (s.length - 4)) h;obtain⟨h2,e2,k2,t2⟩:=u32_r (n:=n) (d:=d) k1 (Nat.zero_le _) (by omega) hn8
 have ev:(rNum (s.drop (s.length - 4)) 4 ⟨0,0,0⟩).1=valB (s.drop (s.length - 4)):=by
  unfold rNum;rw[if_neg (by simp),if_neg (by show ¬_<0+4;omega)];show valB (((s.drop (s.length - 4)).drop 0).take 4)=_;rw[List.drop_zero,List.take_of_length_le (by omega)]
 rw[ev] at e2;apply Wp.eq;rw[w_frame_whole];refine y3d ?_;unfold frame_whole;refine ye (by omega) (by omega) (Wp.obind s1 (Wp.obind s2 (Wp.callN e1 (Wp.callN e2 (Wp.obind (avInt_int _ _) (Wp.callN (sum_w (n:=n) (d:=d+1) (by rw[List.length_take];omega) (by rw[List.length_take];omega)) (Wp.obind (avInt_int _ _) (Wp.lett (Wp.ret ⟨(t1.trans' t2 fun b hb=>.inr (by rw[List.mem_singleton.1 hb];exact Nat.le_refl _)).above,rfl,?_,rfl⟩)))))))));unfold wholeB
 by_cases hc:valB (s.drop (s.length - 4))=Crc.of (s.take (s.length - 4))
 ·rw[beq_t (by omega),beq_iff_eq.2 hc]
 ·rw[beq_f (by omega),beq_eq_false_iff_ne.2 hc]
theorem summed_w(hs:s.length<1000000)(hn:s.length<n)(hn8:8<n)(hx:memB 5 h.ex=false):world n (d+3) 76 [strA s] h=some (.ret (strA (s++numB 4 (Crc.of s))),h):=by
 apply Wp.eq;rw[w_frame_summed];refine Wp.gc' ?_;unfold frame_summed;have hc:=crc_lt s;exact Wp.callN (sum_w (n:=n) (d:=d) (by omega) hn) (Wp.obind (avInt_int _ _) (Wp.callN (u32_w (n:=n) (d:=d) hn8 hc hx) (Wp.obind (avStr_str _) (Wp.obind (addS_val (by rw[numB_length];omega)) (Wp.ret ⟨⟨rfl,rfl⟩,fun _=>⟨rfl,rfl⟩⟩)))))
theorem put_w(hn:4096<n)(hx:memB 5 h.ex=false):world n (d+4) 66 [strA p] h=some (.ret (if 4096<p.length then .tup [strA [],.int .i64 3] else .tup [strA (frameB p),.int .i64 0]),h):=by
 have ll:=lenS_nat p;apply Wp.eq;rw[w_frame_Put];refine Wp.gc' ?_;unfold frame_Put
 by_cases hp:4096<p.length
 ·rw [if_pos hp]
  exact Wp.lett (yc (by rw[decide_eq_true_eq];omega) (Wp.ret ⟨⟨rfl,rfl⟩,fun _=>⟨rfl,rfl⟩⟩))
 ·rw [if_neg hp]
  have n4:(numB 4 p.length).length=4:=numB_length _ _;refine Wp.lett (y7 (by rw[decide_eq_false_iff_not];omega) (y1b (by omega) (by omega) ?_));rw[ll];refine Wp.callN (u32_w (n:=n) (d:=d+1) (by omega) (by omega) hx) (Wp.obind (avStr_str _) (Wp.callN (summed_w (n:=n) (d:=d) (by omega) (by omega) (by omega) hx) (Wp.obind (avStr_str _) (Wp.callN (summed_w (n:=n) (d:=d) (by omega) (by omega) (by omega) hx) (Wp.obind (avStr_str _) (Wp.obind (addS_val ?_) (Wp.ret ⟨⟨rfl,rfl⟩,fun _=>⟨rfl,rfl⟩⟩)))))));rw[List.length_append,List.length_append,numB_length,numB_length,numB_length];omega
theorem take_w(hs:s.length<1000000000)(hn:5000<n):world n (d+5) 58 [strA s] h=some (.ret (.tup [strA (takeR s).1,.int .i64 ((takeR s).2.1:Int),.int .i64 (takeR s).2.2]),h):=by
 have ll:=lenS_nat s;obtain⟨h1,e1,k1,l1,t1⟩:=new_r (n:=n) (d:=d+3) s h;obtain⟨h2,e2,k2,t2⟩:=u32_r (n:=n) (d:=d+1) k1 (Nat.zero_le _) (by omega) (by omega);have T:Tch [] h h2:=t1.trans' t2 fun b hb=>.inr (by rw[List.mem_singleton.1 hb];exact Nat.le_refl _);have tA:=T.above;apply Wp.eq;rw[w_frame_Take];refine y3d ?_;unfold frame_Take takeR
 by_cases h8:s.length<8
 ·rw [if_pos h8]
  exact Wp.lett (yc (by rw[decide_eq_true_eq];omega) (Wp.ret ⟨(Tch.refl [] h).above,rfl,rfl,rfl⟩))
 rw[if_neg h8]
 have ev:(rNum s 4 ⟨0,0,0⟩).1=valB (s.take 4):=by
  unfold rNum;rw[if_neg (by simp),if_neg (by show ¬_<0+4;omega)];rfl
 have hv:valB (s.take 4)<4294967296:=by
  have:=valB_lt (s.take 4);rw[List.length_take,Nat.min_eq_left (by omega)] at this;exact this
 rw[ev] at e2
 generalize hV:valB (s.take 4)=V at *
 refine Wp.lett (y7 (by rw[decide_eq_false_iff_not];omega) (Wp.callN e1 (Wp.callN e2 (Wp.obind (avInt_int _ _) (Wp.lett (y8 fun j20 e20=>?_))))))
 have bad:(4096<V∨wholeB (s.take 8)=false)→Wp (j20 true h2) fun r h'=>Above h h'∧r.val.scal=true∧r=ARes.ret (AV.tup [strA (if 4096<V∨wholeB (s.take 8)=false then ([],0,7) else if s.length<V+12 then ([],0,30) else if wholeB ((s.drop 8).take (V+4))=false then ([],0,7) else ((s.drop 8).take V,V+12,0):Bytes×Nat×Int).1,.int .i64 ((if 4096<V∨wholeB (s.take 8)=false then ([],0,7) else if s.length<V+12 then ([],0,30) else if wholeB ((s.drop 8).take (V+4))=false then ([],0,7) else ((s.drop 8).take V,V+12,0):Bytes×Nat×Int).2.1:Int),.int .i64 (if 4096<V∨wholeB (s.take 8)=false then ([],0,7) else if s.length<V+12 then ([],0,30) else if wholeB ((s.drop 8).take (V+4))=false then ([],0,7) else ((s.drop 8).take V,V+12,0):Bytes×Nat×Int).2.2])∧h=h:=fun hc=>by
  rw[if_pos hc,e20];exact yc rfl (Wp.ret ⟨tA,rfl,rfl,rfl⟩)
 by_cases h4:4096<V
 ·exact yc (by rw[decide_eq_true_eq];omega) (bad (.inl h4))
 have s8:sliceS s 0 8=some (s.take 8):=by
  rw[sliceS_int (by omega) (by omega) (by omega)];rfl
 refine y7 (by rw[decide_eq_false_iff_not];omega) (Wp.obind s8 (Wp.callN (fwhole_w (n:=n) (d:=d) (by rw[List.length_take];omega) (by rw[List.length_take];omega) (by rw[List.length_take];omega) (by omega)) (Wp.obind (avBool_bool _) (Wp.lett ?_))));cases hw:wholeB (s.take 8) with
 |false=>
  rw[hw] at bad;exact bad (.inr rfl)
 |true=>
  rw[if_neg (by simp;omega),e20];refine y7 rfl (ye (by omega) (by omega) (ye (by omega) (by omega) (ye (by omega) (by omega) (Wp.lett ?_))))
  by_cases h12:s.length<V+12
  ·rw [if_pos h12]
   exact yc (by rw[decide_eq_true_eq];omega) (Wp.ret ⟨tA,rfl,rfl,rfl⟩)
  rw[if_neg h12]
  have sA:sliceS s 8 (8+(V:Int)+4)=some ((s.drop 8).take (V+4)):=by
   rw[sliceS_int (by omega) (by omega) (by omega),show (8+(V:Int)+4).toNat - (8:Int).toNat=V+4 by omega];rfl
  have sB:sliceS s 8 (8+(V:Int)+4 - 4)=some ((s.drop 8).take V):=by
   rw[sliceS_int (by omega) (by omega) (by omega),show (8+(V:Int)+4 - 4).toNat - (8:Int).toNat=V by omega];rfl
  have hql:((s.drop 8).take (V+4)).length=V+4:=by rw[List.length_take,List.length_drop];omega
  refine y7 (by rw[decide_eq_false_iff_not];omega) (Wp.obind sA (Wp.callN (fwhole_w (n:=n) (d:=d) (by omega) (by omega) (by omega) (by omega)) (Wp.obind (avBool_bool _) (Wp.lett ?_))));cases hw2:wholeB ((s.drop 8).take (V+4)) with
  |false=>
   rw[if_pos rfl];exact yc rfl (Wp.ret ⟨tA,rfl,rfl,rfl⟩)
  |true=>
   rw[if_neg (by decide)];refine y7 rfl (ye (by omega) (by omega) (Wp.obind sB (Wp.ret ⟨tA,rfl,?_,rfl⟩)));rw[show 8+(V:Int)+4=((V+12:Nat):Int) by omega]
end
abbrev TStr:Nat:=9
abbrev TIn:Nat:=3
section
variable {n d D bx y:Nat}{h H:AHeap}{s p:Bytes}{Q:ARes→AHeap→Prop}{v v1:AV}
theorem fall_loop{both:BothF}{yb:AV}{Inv Fin:Nat→AHeap→Prop}(hs:s.length<1000000000)(htk:∀(u:Bytes) (h:AHeap),u.length<1000000000→both false 58 [strA u] h=some (.ret (.tup [strA (takeR u).1,.int .i64 ((takeR u).2.1:Int),.int .i64 (takeR u).2.2]),h))(hbx:∀i H,Inv i H→RowH H bx TStr [strA s])(step:∀i H,i≤s.length→(takeR (s.drop i)).2.2=0→Inv i H→∃g H',dynB Try.prog both yb [.int .i64 (i:Int),strA (takeR (s.drop i)).1] H=some (.ret (.bool g),H')∧(g=true→Inv (i+(takeR (s.drop i)).2.1) H')∧(g=false→Fin i H'))(hk:∀i H,i≤s.length→(takeR (s.drop i)).2.2≠0→Inv i H→Q (.ret (.tup [])) H)(hf:∀i H,i≤s.length→(takeR (s.drop i)).2.2=0→Fin i H→Q (.ret (.tup [])) H):
  ∀(fu i:Nat) (H:AHeap),s.length - i<fu→i≤s.length→Inv i H→Wp (frame_All_1_L0 both yb (.ptr bx 0) fu (i:Int) H) Q
 |0,_,_,hfu,_,_=>by omega
 |fu+1,i,H,hfu,hi,I=>by
  have ll:=lenS_nat s
  have sA:sliceS s (i:Int) (lenS s)=some (s.drop i):=by
   rw[sliceS_int (by omega) (by omega) (by omega),List.take_of_length_le (by rw[List.length_drop];omega)];rfl
  rw[frame_All_1_L0_s];unfold frame_All_1_L0b;refine Wp.obind (y5 (hbx i H I) rfl) (Wp.obind (avStr_str _) (Wp.obind sA (Wp.callN (htk _ H (by rw[List.length_drop];omega)) (Wp.obind (extT_0 _ _) (Wp.obind (avStr_str _) (Wp.obind (extT_1 _ _ _) (Wp.obind (avInt_int _ _) (Wp.obind (extT_2 _ _ _ _) (Wp.obind (avInt_int _ _) (Wp.lett (y8 fun j23 e23=>?_)))))))))))
  by_cases he:(takeR (s.drop i)).2.2=0
  ·have hl := takeR_len he
   rw[List.length_drop] at hl;obtain⟨g,H',e,y1,y2⟩:=step i H hi he I;refine y7 (bne_f he) (Wp.callN e (Wp.obind (avBool_bool _) (Wp.lett ?_)));rw[e23]
   cases g with
   |false=>exact yc rfl (y2e (Wp.ret (hf i H' hi he (y2 rfl))))
   |true=>
    refine y7 rfl (ye (by omega) (by omega) ?_);rw[show (i:Int)+((takeR (s.drop i)).2.1:Int)=((i+(takeR (s.drop i)).2.1:Nat):Int) by omega];exact fall_loop hs htk hbx step hk hf fu (i+(takeR (s.drop i)).2.1) H' (by omega) (by omega) (y1 rfl)
  ·refine yc (bne_t he) ?_
   rw[e23];exact yc rfl (y2e (Wp.ret (hk i H hi he I)))
theorem fall_iter{Inv Fin:Nat→AHeap→Prop}(hs:s.length<1000000000)(hn:1000000000<n)(hbx:∀i H,Inv i H→RowH H bx TStr [strA s])(step:∀i H,i≤s.length→(takeR (s.drop i)).2.2=0→Inv i H→∃g H',dynB Try.prog (wL n (D+5) (d+1)) (.yld y) [.int .i64 (i:Int),strA (takeR (s.drop i)).1] H=some (.ret (.bool g),H')∧(g=true→Inv (i+(takeR (s.drop i)).2.1) H')∧(g=false→Fin i H'))(h0:Inv 0 H):∃H',wL n (D+5) (d+2) false 57 [.yld y,.ptr bx 0] H=some (.ret (.tup []),H')∧((∃i,i≤s.length∧(takeR (s.drop i)).2.2≠0∧Inv i H')∨∃i,i≤s.length∧(takeR (s.drop i)).2.2=0∧Fin i H'):=by
 suffices hK:Wp (frame_All_1 (wL n (D+5) (d+1)) n (.yld y) (.ptr bx 0) H) fun r H'=>r=.ret (.tup [])∧((∃i,i≤s.length∧(takeR (s.drop i)).2.2≠0∧Inv i H')∨∃i,i≤s.length∧(takeR (s.drop i)).2.2=0∧Fin i H') by
  obtain⟨_,H',e,rfl,k⟩:=hK;exact⟨H',wL_frame_All_1 n (D+5) (d+1) _ _ e,k⟩
 unfold frame_All_1;exact fall_loop (Inv:=Inv) (Fin:=Fin) hs (fun u h hu=>(wL_b 58).trans (take_w (n:=n) (d:=D) hu (by omega))) hbx step (fun i H h1 h2 I=>⟨rfl,.inl ⟨i,h1,h2,I⟩⟩) (fun i H h1 h2 I=>⟨rfl,.inr ⟨i,h1,h2,I⟩⟩) n 0 H (by omega) (Nat.zero_le _) h0
theorem fall_w(s:Bytes)(H:AHeap):∃H',world n (d+1) 45 [strA s] H=some (.ret (.fn 57 [] [.ptr H.next 0]),H')∧RowH H' H.next TStr [strA s]∧H.next<H'.next∧Tch [] H H':=by
 suffices hA:Wp (world n (d+1) 45 [strA s] H) fun r h'=>r=.ret (.fn 57 [] [.ptr H.next 0])∧RowH h' H.next TStr [strA s]∧H.next<h'.next∧Tch [] H h' by
  obtain⟨_,h',e,rfl,t⟩:=hA;exact⟨h',e,t⟩
 rw[w_frame_All];unfold frame_All;refine y11 (Mem.nil [] H) fun h2 M2=>Wp.ret ⟨rfl,M2.at0.1,M2.at0.2.1,M2.tch⟩
theorem recS_ne{e b c:Nat}{l:List AV}{o:AKeep}(k:RowH H c e l)(hb:H.get b=some (.obj o)):c≠b:=by
 intro e;subst e;obtain⟨t,h1,_⟩:=k;rw[h1] at hb;cases hb
theorem y3a{b b' e e':Nat}{l l':List AV}(k:RowH H b e l)(k':RowH H b' e' l')(hne:e≠e'):b≠b':=by
 intro hb;subst hb;obtain⟨t,h1,_⟩:=k;obtain⟨t',h2,_⟩:=k';rw[h1] at h2;simp only[Option.some.injEq,AObj.row.injEq] at h2;exact hne h2.2.2
end
abbrev TBy:Nat:=58
abbrev TChg:Nat:=105
abbrev TChgs:Nat:=61
abbrev TDisk:Nat:=66
structure Cont where
 th:Bool
 u:Bytes
structure Chg where
 k:Nat
 s:Bytes
 n:Int
noncomputable def chgC(c:Chg):List AV:=[.int .i64 (c.k:Int),strA c.s,.int .i64 c.n]
def do1(x:Cont)(c:Chg):Cont:=if c.k=0 then ⟨true,x.u++c.s⟩ else if c.k=1 then ⟨x.th,x.u.take c.n.toNat⟩ else ⟨false,[]⟩
def doL(x:Cont)(l:List Chg):Cont:=l.foldl do1 x
def legal(x:Cont)(c:Chg):Prop:=c.k=0∨(c.k=1∧0≤c.n∧c.n≤(x.u.length:Int))∨c.k=2
def Legal:Cont→List Chg→Prop
 |_,[]=>True
 |x,c::l=>legal x c∧Legal (do1 x c) l
def sumL:List Chg→Nat
 |[]=>0
 |c::l=>c.s.length+sumL l
theorem do1_len(x:Cont)(c:Chg):(do1 x c).u.length≤x.u.length+c.s.length:=by
 unfold do1
 split
 ·rw [List.length_append]
  exact Nat.le_refl _
 ·split
  ·rw [List.length_take]
   omega
  ·exact Nat.zero_le _
theorem doL_len:∀(l:List Chg) (x:Cont),(doL x l).u.length≤x.u.length+sumL l
 |[],_=>Nat.le_refl _
 |c::l,x=>by
  have h1:=do1_len x c;have h2:=doL_len l (do1 x c);show (doL (do1 x c) l).u.length≤x.u.length+(c.s.length+sumL l);omega
theorem doL_snoc(x:Cont)(l:List Chg)(c:Chg):doL x (l++[c])=do1 (doL x l) c:=by
 unfold doL;rw[List.foldl_append];rfl
theorem Legal_snoc:∀(l:List Chg) (x:Cont) (c:Chg),Legal x l→legal (doL x l) c→Legal x (l++[c])
 |[],_,_,_,h=>⟨h,trivial⟩
 |a::l,x,c,h1,h2=>⟨h1.1,Legal_snoc l (do1 x a) c h1.2 h2⟩
theorem sumL_snoc:∀(l:List Chg) (c:Chg),sumL (l++[c])=sumL l+c.s.length
 |[],c=>by
  show c.s.length+0=0+c.s.length;omega
 |a::l,c=>by
  have:=sumL_snoc l c;show a.s.length+sumL (l++[c])=a.s.length+sumL l+c.s.length;omega
theorem y8{α:Type}{a:α}{K:α→R}{Q:ARes→AHeap→Prop}(hk:∀x,x=a→Wp (K x) Q):Wp (Abs.lett a K) Q:=hk a rfl
def blkV:AV→List Nat
 | .sl c _ _ _=>[c]
 |_=>[]
theorem slice_to{P:Program}{h:AHeap}{t e:TypeId}{b m sz k:Nat}{k1:IntKind}(he:Abs.elemOf P t=some e)(hi:(P.info? e).isSome=true)(hsz:P.cellsOf e=sz)(h1:k≤m):
  sliceA P h t (.sl b 0 m sz) none (some (.int k1 (k:Int)))=some (.val (.sl b 0 k sz),h):=by
 have b1:boundA (some (AV.int k1 (k:Int))) m=some k:=rfl;have b2:boundA none 0=some 0:=rfl;simp only[sliceA,sliceRow,b1,b2,he];rw[if_pos ⟨Nat.ble_eq_true_of_le (Nat.zero_le k),Nat.ble_eq_true_of_le h1,hsz.symm,hi⟩,if_neg (fun hc=>by have:=Nat.le_of_ble_eq_true hc.2;omega),Nat.zero_mul,Nat.add_zero,Nat.sub_zero]
theorem fitBy:fitB Try.prog 5 1=true:=by kernel_rfl
def BufAt(h:AHeap)(v:AV)(u:Bytes):Prop:=(v=.nsl∧u=[])∨∃c rest,v=.sl c 0 u.length 1∧RowH h c 5 (bytesC u++rest)∧c<h.next
section
variable {h h':AHeap}{v:AV}{u:Bytes}
theorem BufAt.tch{S:List Nat}(k:BufAt h v u)(t:Tch S h h')(hd:∀b∈blkV v,b ∉ S):BufAt h' v u:=by
 rcases k with k|⟨c,rest,rfl,h2,h3⟩
 ·exact .inl k
 ·exact .inr ⟨c,rest,rfl,h2.tch t h3 (hd c (List.mem_singleton.2 rfl)),Nat.lt_of_lt_of_le h3 t.1⟩
theorem BufAt.lt(k:BufAt h v u):∀b∈blkV v,b<h.next:=by
 rcases k with⟨rfl,_⟩|⟨c,rest,rfl,_,h3⟩
 ·exact fun b hb=>nomatch hb
 ·intro b hb
  rw[List.mem_singleton.1 hb];exact h3
theorem BufAt.len(k:BufAt h v u):lenL v=some (u.length:Int):=by
 rcases k with⟨rfl,rfl⟩|⟨c,rest,rfl,_⟩<;>rfl
theorem BufAt.one(k:BufAt h v u):v.one=true∧AV.cells v=[v]:=by
 rcases k with⟨rfl,rfl⟩|⟨c,rest,rfl,_⟩<;>exact⟨rfl,rfl⟩
theorem BufAt.app(k:BufAt h v u)(s:Bytes)(hx:h.ex=[])(hm:u.length+s.length≤1000000000):
  ∃v' h',opAppend Try.prog h TBy 9 v (strA s)=some (.val v',h')∧BufAt h' v' (u++s)∧Tch (blkV v) h h'∧∀b∈blkV v',b∈blkV v∨h.next≤b:=by
 have he:Abs.elemOf Try.prog TBy=some 5:=by kernel_rfl
 have hu:notInt Try.prog 9=true:=by kernel_rfl
 have hsz:Try.prog.cellsOf 5=1:=by kernel_rfl
 have hex:memB 5 h.ex=false:=by rw[hx];rfl
 by_cases h0:s=[]
 ·subst h0
  have hfit2:=bytesFit_of (P:=Try.prog) (e:=5) (B:=1) (k:=u.length+0) fitBy (by omega) (by omega);rw[List.append_nil];refine⟨v,h,?_,k,Tch.refl _ _,fun b hb=>.inl hb⟩
  rcases k with⟨rfl,rfl⟩|⟨c,rest,rfl,_⟩
  ·have hl : lenA .nsl = some 0 := rfl
   have hx0:lenA (strA [])=some 0:=rfl;have hf:firstA h 1 0 (strA [])=some []:=firstA_str [];unfold notInt at hu;unfold opAppend
   split at hu
   ·cases hu
   ·rename_i ud hni heq
    have hfit3:bytesFit Try.prog 5 (0+0)=true:=hfit2;simp only[he,hl,hx0,heq,hsz,hf,hfit3,hex,List.all_nil,and_self,if_true];rfl
   ·cases hu
  ·exact append_zero he hu hsz rfl rfl (firstA_str []) hfit2 hex
 ·obtain ⟨m, hm2⟩ : ∃ m, s.length = m + 1 := by
   cases s with
   |nil=>exact absurd rfl h0
   |cons a l=>exact⟨l.length,rfl⟩
  have hf:firstA h 1 (m+1) (strA s)=some (bytesC s):=by
   rw[←hm2];exact firstA_str s
  have hl:lenA (strA s)=some (m+1):=by
   rw[←hm2];rfl
  rcases k with⟨rfl,rfl⟩|⟨c,rest,rfl,h2,h3⟩
  ·have a1 := append_new (P := Try.prog) (h := h) (t := TBy) (u := 9) he hu hsz hl hf (bytesFit_of fitBy (by omega) (by omega)) (bytesC_one s) hex
   refine⟨_,_,a1,.inr ⟨h.next,[],by rw[List.nil_append,hm2],?_,Nat.lt_succ_self _⟩,Tch.newH _ _ _ _,fun b hb=>.inr (by rw[List.mem_singleton.1 hb];exact Nat.le_refl _)⟩;rw[List.nil_append,List.append_nil];exact RowH.new _ _ _
  ·have hcl := bytesC_length u
   have a1:=append_more (P:=Try.prog) (h:=h) (t:=TBy) (u:=9) (b:=c) (o:=0) (m:=u.length) (cs:=bytesC u) he hu hsz hl hf (bytesFit_of fitBy (by omega) (by omega)) (bytesC_one s) hex (by
    have:=h2.part (o:=0) (n:=(bytesC u).length) (by rw[List.length_append];omega);rw[List.drop_zero,List.take_left' rfl] at this;rw[Nat.mul_one, ←hcl];exact this) h2.type
   refine⟨_,_,a1,.inr ⟨h.next,[],by rw[List.length_append,hm2],?_,Nat.lt_succ_self _⟩,(Tch.put (S:=[c]) (.inl (List.mem_singleton.2 rfl)) _).trans (Tch.newH _ _ _ _),fun b hb=>.inr (by rw[List.mem_singleton.1 hb];exact Nat.le_refl _)⟩;rw[bytesC_append,List.append_nil];exact RowH.new (h.put c .dead) _ _
theorem BufAt.cut(k:BufAt h v u){n:Int}(h0:0≤n)(h1:n≤(u.length:Int)):∃v',sliceA Try.prog h TBy v none (some (.int .i64 n))=some (.val v',h)∧BufAt h v' (u.take n.toNat)∧blkV v'=blkV v:=by
 obtain⟨j,rfl⟩:∃j:Nat,n=(j:Int):=⟨n.toNat,by omega⟩;rw[Int.toNat_natCast];have hj:j≤u.length:=by omega
 rcases k with⟨rfl,rfl⟩|⟨c,rest,rfl,h2,h3⟩
 ·have hj0 : j = 0 := by
   rw[List.length_nil] at hj;omega
  subst hj0;exact⟨.nsl,by kernel_rfl,.inl ⟨rfl,rfl⟩,rfl⟩
 ·have hl : (u.take j).length = j := by rw [List.length_take]; omega
  refine⟨.sl c 0 j 1,slice_to (P:=Try.prog) (e:=5) (k1:=.i64) (by kernel_rfl) (by kernel_rfl) (by kernel_rfl) hj,.inr ⟨c,bytesC (u.drop j)++rest,by rw[hl],?_,h3⟩,rfl⟩;rw[←List.append_assoc, ←bytesC_append,List.take_append_drop];exact h2
end
def RdL(h:AHeap)(S:List Nat)(lv:AV)(l:List Chg):Prop:=lenL lv=some (l.length:Int)∧∀H,Tch S h H→∀(i:Nat) (hi:i<l.length),∃p,idxP 3 lv (i:Int)=some p∧ldRow H 3 p=some (chgC l[i])
theorem dropC{α:Type}{l:List α}{i:Nat}{a:α}{r:List α}(h:l.drop i=a::r):∃hi:i<l.length,l[i]=a∧l.drop (i+1)=r:=by
 have hi:i<l.length:=by
  apply Nat.lt_of_not_le;intro hh;rw[List.drop_of_length_le hh] at h;cases h
 rw[List.drop_eq_getElem_cons hi] at h
 injection h with h1 h2
 exact⟨hi,h1,h2⟩
theorem dropN{α:Type}{l:List α}{i:Nat}(h:l.drop i=[]):l.length≤i:=by
 apply Nat.le_of_not_lt;intro hh;rw[List.drop_eq_getElem_cons hh] at h;cases h
theorem set4{D:List AV}{o:Nat}{a b c d:AV}:(((D.set o a).set (o+1) b).set o c).set (o+1) d=(D.set o c).set (o+1) d:=by
 rw[List.set_comm b c (show o+1≠o by omega),List.set_set,List.set_set]
theorem set3{D:List AV}{o:Nat}{a b d:AV}:((D.set o a).set (o+1) b).set (o+1) d=(D.set o a).set (o+1) d:=List.set_set ..
theorem laid2{l:List AV}{o:Nat}{a b:AV}(h:o+1<l.length):laid l o [a,b]=(l.set o a).set (o+1) b:=by
 refine List.ext_getElem? fun i=>?_;rw[laid_get (by show o+2≤_;omega)]
 by_cases h1:i=o
 ·subst h1
  rw[if_pos ⟨Nat.le_refl _,by show i<i+2;omega⟩,Nat.sub_self,List.getElem?_set_ne (by omega),List.getElem?_set_self (by omega)];rfl
 ·by_cases h2 : i = o + 1
  ·subst h2
   rw[if_pos ⟨by omega,by show o+1<o+2;omega⟩,show o+1 - o=1 by omega,List.getElem?_set_self (by rw[List.length_set];omega)];rfl
  ·rw[if_neg (fun hh=>by have:i<o+2:=hh.2;omega),List.getElem?_set_ne (by omega),List.getElem?_set_ne (by omega)]
structure DoAt (h H:AHeap) (db T o:Nat) (D:List AV) (v v':AV) (x:Cont):Prop where
 row:RowH H db T ((D.set o (.bool x.th)).set (o+1) v')
 buf:BufAt H v' x.u
 ndb:db ∉ blkV v'
 sub:∀b∈blkV v',b∈blkV v∨h.next≤b
 tch:Tch (db::blkV v) h H
 ex:H.ex=[]
section
variable {n d db T o:Nat}{h:AHeap}{D:List AV}{v lv:AV}{l:List Chg}{Q:ARes→AHeap→Prop}{k4:AHeap→R}
theorem do_loop(hdb:db<h.next)(ho:o+1<D.length)(rd:RdL h (db::blkV v) lv l)(hl:l.length<1000000):
  ∀(todo:List Chg) (i fu:Nat) (x:Cont) (v':AV) (H:AHeap),l.drop i=todo→todo.length<fu→DoAt h H db T o D v v' x→Legal x todo→x.u.length+sumL todo≤100000000→
   (∀H' v'',DoAt h H' db T o D v v'' (doL x todo)→Wp (k4 H') Q)→Wp (disk_content_do_L0 (.ptr db o) lv (l.length:Int) k4 fu (i:Int) H) Q
 |_,_,0,_,_,_,_,hf,_,_,_,_=>by omega
 |[],i,fu+1,x,v',H,hd,hf,K,_,_,hk=>by
  have:=dropN hd;rw[disk_content_do_L0_s];unfold disk_content_do_L0b
  (first|(with_reducible first|refine y25 (fun _ _=>?_)|refine y19 (fun _ _=>?_)|refine Wp.join2 (fun _ _=>?_))|((with_reducible first|refine ye ?_ ?_ ?_|refine y1e ?_ ?_ ?_|refine Wp.lettu8 ?_ ?_ ?_|refine y1b ?_ ?_ ?_);omega;omega)|(with_reducible refine Wp.lett ?_)|((with_reducible apply Wp.obind);first|(with_reducible first|exact avInt_int _ _|exact avBool_bool _|exact avStr_str _|exact nilC_ptr _ _|exact fldP_ptr _ _ _|exact avAgg_agg _|exact extT_0 _ _|exact extT_1 _ _ _|exact extT_2 _ _ _ _|assumption)|((with_reducible first|apply y5|apply RowH.ldAll);(with_reducible assumption);rfl))|((with_reducible refine yc ?_ ?_);first|(with_reducible first|rfl|assumption|exact Bool.not_false)|((with_reducible first|apply decide_eq_true|apply not_df|apply bne_t|apply beq_t);omega))|((with_reducible refine y7 ?_ ?_);first|(with_reducible first|rfl|assumption|exact Bool.not_true)|((with_reducible first|apply decide_eq_false|apply not_dt|apply bne_f|apply beq_f);omega))|((with_reducible first|apply Wp.callN|apply Wp.callK);(with_reducible assumption))|((with_reducible apply Wp.outK);(with_reducible assumption))|(with_reducible first|refine y33 (by assumption) ?_|refine y2a (by assumption) ?_|refine Wp.go2 (by assumption) ?_)|rw[newP_eq])
  exact y7 (by rw[decide_eq_false_iff_not];omega) (hk H v' K)
 |c::todo,i,fu+1,x,v',H,hd,hf,K,hL,hb,hk=>by
  obtain⟨hi,hci,hd2⟩:=dropC hd;rw[List.length_cons] at hf;obtain⟨p,i1,r1⟩:=rd.2 H K.tch i hi;rw[hci] at r1;have el:(i:Int)+1=((i+1:Nat):Int):=by omega
  have hs:sumL (c::todo)=c.s.length+sumL todo:=rfl;have hlen:o+1<((D.set o (.bool x.th)).set (o+1) v').length:=by rw[List.length_set,List.length_set];exact ho
  have hn0:=K.tch.1;rw[disk_content_do_L0_s];unfold disk_content_do_L0b
  (first|(with_reducible first|refine y25 (fun _ _=>?_)|refine y19 (fun _ _=>?_)|refine Wp.join2 (fun _ _=>?_))|((with_reducible first|refine ye ?_ ?_ ?_|refine y1e ?_ ?_ ?_|refine Wp.lettu8 ?_ ?_ ?_|refine y1b ?_ ?_ ?_);omega;omega)|(with_reducible refine Wp.lett ?_)|((with_reducible apply Wp.obind);first|(with_reducible first|exact avInt_int _ _|exact avBool_bool _|exact avStr_str _|exact nilC_ptr _ _|exact fldP_ptr _ _ _|exact avAgg_agg _|exact extT_0 _ _|exact extT_1 _ _ _|exact extT_2 _ _ _ _|assumption)|((with_reducible first|apply y5|apply RowH.ldAll);(with_reducible assumption);rfl))|((with_reducible refine yc ?_ ?_);first|(with_reducible first|rfl|assumption|exact Bool.not_false)|((with_reducible first|apply decide_eq_true|apply not_df|apply bne_t|apply beq_t);omega))|((with_reducible refine y7 ?_ ?_);first|(with_reducible first|rfl|assumption|exact Bool.not_true)|((with_reducible first|apply decide_eq_false|apply not_dt|apply bne_f|apply beq_f);omega))|((with_reducible first|apply Wp.callN|apply Wp.callK);(with_reducible assumption))|((with_reducible apply Wp.outK);(with_reducible assumption))|(with_reducible first|refine y33 (by assumption) ?_|refine y2a (by assumption) ?_|refine Wp.go2 (by assumption) ?_)|rw[newP_eq])
  refine yc (by rw[decide_eq_true_eq];omega) (Wp.obind i1 (Wp.obind r1 (y11 (Mem.nil [] H) fun h2 M2=>?_)));rw[newP_eq];refine y1a M2 rfl rfl rfl fun h3 M3=>?_;have t3:=M3.tch;have hn3:=t3.1;have hx3:h3.ex=[]:=by rw[M3.ex,K.ex]
  have kr:=K.row.tch t3 (Nat.lt_of_lt_of_le hdb K.tch.1) (by simp);have kb:=K.buf.tch t3 (fun _ _=>by simp);have hne:H.next≠db:=by omega
  refine Wp.obind (y5 M3.at0.1 (show (chgC c)[0]? =some (.int .i64 (c.k:Int)) from rfl)) (Wp.obind (avInt_int _ _) (Wp.lett (y8 fun k26 ek=>?_)))
  have next:∀(H':AHeap) (v'':AV),DoAt h H' db T o D v v'' (do1 x c)→Wp (k26 H') Q:=by
   intro H' v'' K';rw[ek]
   (first|(with_reducible first|refine y25 (fun _ _=>?_)|refine y19 (fun _ _=>?_)|refine Wp.join2 (fun _ _=>?_))|((with_reducible first|refine ye ?_ ?_ ?_|refine y1e ?_ ?_ ?_|refine Wp.lettu8 ?_ ?_ ?_|refine y1b ?_ ?_ ?_);omega;omega)|(with_reducible refine Wp.lett ?_)|((with_reducible apply Wp.obind);first|(with_reducible first|exact avInt_int _ _|exact avBool_bool _|exact avStr_str _|exact nilC_ptr _ _|exact fldP_ptr _ _ _|exact avAgg_agg _|exact extT_0 _ _|exact extT_1 _ _ _|exact extT_2 _ _ _ _|assumption)|((with_reducible first|apply y5|apply RowH.ldAll);(with_reducible assumption);rfl))|((with_reducible refine yc ?_ ?_);first|(with_reducible first|rfl|assumption|exact Bool.not_false)|((with_reducible first|apply decide_eq_true|apply not_df|apply bne_t|apply beq_t);omega))|((with_reducible refine y7 ?_ ?_);first|(with_reducible first|rfl|assumption|exact Bool.not_true)|((with_reducible first|apply decide_eq_false|apply not_dt|apply bne_f|apply beq_f);omega))|((with_reducible first|apply Wp.callN|apply Wp.callK);(with_reducible assumption))|((with_reducible apply Wp.outK);(with_reducible assumption))|(with_reducible first|refine y33 (by assumption) ?_|refine y2a (by assumption) ?_|refine Wp.go2 (by assumption) ?_)|rw[newP_eq])
   rw[el];have:=do1_len x c;exact do_loop hdb ho rd hl todo (i+1) fu (do1 x c) v'' H' hd2 (by omega) K' hL.2 (by omega) hk
  have g1:((D.set o (.bool x.th)).set (o+1) v')[o+1]? =some v':=List.getElem?_set_self (by rw[List.length_set];exact ho)
  rcases hL.1 with h0|⟨h1,hc0,hc1⟩|h2
  ·refine yc (beq_t (by omega)) ?_
   have ed:do1 x c=⟨true,x.u++c.s⟩:=by unfold do1;rw[if_pos h0]
   rw[ed] at next;refine Wp.obind (nilC_ptr _ _) (Wp.obind (fldP_ptr _ _ _) (Wp.st1 kr (show o+0<_ by omega) rfl fun h4 k4' t4 n4=>?_));have kb4:=kb.tch t4 (fun b hb hm=>K.ndb (List.mem_singleton.1 hm▸hb));have kl4:=M3.at0.1.tch t4 M3.at0.2.1 (by simpa using hne);have g4:(((D.set o (.bool x.th)).set (o+1) v').set (o+0) (.bool true))[o+1]? =some v':=by rw[List.getElem?_set_ne (by omega)];exact g1
   obtain⟨v'',h5,e5,kb5,t5,s5⟩:=kb4.app c.s (by rw[t4.2.1,hx3]) (by omega);refine Wp.obind (nilC_ptr _ _) (Wp.obind (fldP_ptr _ _ _) (Wp.obind (y5 k4' g4) (Wp.obind (y5 kl4 (show (chgC c)[1]? =some (strA c.s) from rfl)) (Wp.obind (avStr_str _) (Wp.outK e5 (Wp.obind (nilC_ptr _ _) (Wp.obind (fldP_ptr _ _ _) ?_)))))));rw[kb5.one.2];have hdb4:db<h4.next:=by omega
   have kr5:=k4'.tch t5 hdb4 K.ndb;have n5:=t5.1;refine Wp.st1 kr5 (show o+1<_ by rw[List.length_set];exact hlen) kb5.one.1 fun h6 k6 t6 n6=>?_
   have hnd:db ∉ blkV v'':=fun hb=>by
    rcases s5 _ hb with hb|hb
    ·exact K.ndb hb
    ·omega
   have ts:∀b∈blkV v',b∈db::blkV v∨h.next≤b:=fun b hb=>(K.sub b hb).imp (List.mem_cons_of_mem _) id;have td:∀b∈[db],b∈db::blkV v∨h.next≤b:=fun b hb=>.inl (by rw[List.mem_singleton.1 hb];exact List.mem_cons_self);refine next h6 v'' ⟨?_,kb5.tch t6 (fun b hb hm=>hnd (List.mem_singleton.1 hm▸hb)),hnd,fun b hb=>?_,(((K.tch.trans' t3 fun b hb=>nomatch hb).trans' t4 td).trans' t5 ts).trans' t6 td,by rw[t6.2.1,t5.2.1,t4.2.1,hx3]⟩
   ·have k6' : RowH h6 db T ((((D.set o (.bool x.th)).set (o + 1) v').set o (.bool true)).set (o + 1) v'') := k6
    rw[set4] at k6';exact k6'
   ·rcases s5 b hb with hb | hb
    ·exact K.sub b hb
    ·omega
  ·refine y7 (beq_f (by omega)) ?_
   have ed:do1 x c=⟨x.th,x.u.take c.n.toNat⟩:=by unfold do1;rw[if_neg (by omega),if_pos h1]
   rw[ed] at next;obtain⟨v'',e5,kb5,hb5⟩:=kb.cut hc0 hc1;refine Wp.lett (y8 fun k47 ek47=>yc (beq_t (by omega)) (Wp.obind (nilC_ptr _ _) (Wp.obind (fldP_ptr _ _ _) (Wp.obind (y5 kr g1) (Wp.obind (y5 M3.at0.1 (show (chgC c)[2]? =some (.int .i64 c.n) from rfl)) (Wp.obind (avInt_int _ _) (Wp.outK e5 (Wp.obind (nilC_ptr _ _) (Wp.obind (fldP_ptr _ _ _) ?_)))))))));rw[kb5.one.2];refine Wp.st1 kr (show o+1<_ by exact hlen) kb5.one.1 fun h6 k6 t6 n6=>?_;rw[ek47];have hnd:db ∉ blkV v'':=by rw[hb5];exact K.ndb
   have td:∀b∈[db],b∈db::blkV v∨h.next≤b:=fun b hb=>.inl (by rw[List.mem_singleton.1 hb];exact List.mem_cons_self);refine next h6 v'' ⟨?_,kb5.tch t6 (fun b hb hm=>hnd (List.mem_singleton.1 hm▸hb)),hnd,(by rw[hb5];exact K.sub),(K.tch.trans' t3 fun b hb=>nomatch hb).trans' t6 td,by rw[t6.2.1,hx3]⟩;have k6':=k6;rw[set3] at k6';exact k6'
  ·refine y7 (beq_f (by omega)) ?_
   have ed:do1 x c=⟨false,[]⟩:=by unfold do1;rw[if_neg (by omega),if_neg (by omega)]
   rw[ed] at next;refine Wp.lett (y8 fun k47 ek47=>y7 (beq_f (by omega)) (Wp.lett (y8 fun k62 ek62=>yc (beq_t (by omega)) (Wp.obind (nilC_ptr _ _) (y43 kr (rfl:([.bool false,.nsl]:List AV).length=2) (show o+2≤_ by exact hlen) rfl fun h6 k6 t6 n6=>?_)))));rw[ek62,ek47];have td:∀b∈[db],b∈db::blkV v∨h.next≤b:=fun b hb=>.inl (by rw[List.mem_singleton.1 hb];exact List.mem_cons_self);refine next h6 .nsl ⟨?_,.inl ⟨rfl,rfl⟩,(fun h=>nomatch h),(fun _ h=>nomatch h),(K.tch.trans' t3 fun b hb=>nomatch hb).trans' t6 td,by rw[t6.2.1,hx3]⟩;have k6':=k6;rw[laid2 hlen,set4] at k6';exact k6'
theorem do_ok{x:Cont}(hn:1000000<n)(hdb:db<h.next)(kr:RowH h db T D)(h0:D[o]? =some (.bool x.th))(h1:D[o+1]? =some v)(kb:BufAt h v x.u)(hnd:db ∉ blkV v)(hx:h.ex=[])(rd:RdL h (db::blkV v) lv l)(hl:l.length<1000000)(hL:Legal x l)(hb:x.u.length+sumL l≤100000000):
  ∃h' v',world n (d+1) 37 [.ptr db o,lv] h=some (.ret (.tup []),h')∧DoAt h h' db T o D v v' (doL x l):=by
 suffices hK:Wp (world n (d+1) 37 [.ptr db o,lv] h) fun r h'=>r=.ret (.tup [])∧∃v',DoAt h h' db T o D v v' (doL x l) by
  obtain⟨_,h',e,rfl,v',k⟩:=hK;exact⟨h',v',e,k⟩
 rw[w_disk_content_do];unfold disk_content_do;refine Wp.obind rd.1 (y8 fun k4 ek=>?_);have ho:o+1<D.length:=(List.getElem?_eq_some_iff.1 h1).1
 have e0:(D.set o (.bool x.th)).set (o+1) v=D:=by
  obtain⟨_,e1⟩:=List.getElem?_eq_some_iff.1 h0;obtain⟨_,e2⟩:=List.getElem?_eq_some_iff.1 h1;rw[←e1,List.set_getElem_self, ←e2,List.set_getElem_self]
 refine do_loop hdb ho rd hl l 0 n x v h (List.drop_zero) (by omega) ⟨by rw[e0];exact kr,kb,hnd,fun b hb=>.inl hb,Tch.refl _ _,hx⟩ hL hb fun H' v'' K=>?_;rw[ek];exact Wp.ret ⟨rfl,v'',K⟩
end
noncomputable def chgsC:List Chg→List AV
 |[]=>[]
 |c::l=>chgC c++chgsC l
theorem chgsC_len:∀l:List Chg,(chgsC l).length=3*l.length
 |[]=>rfl
 |c::l=>by
  have:=chgsC_len l;rw[chgsC,List.length_append,this,List.length_cons];show 3+_=_;omega
theorem chgsC_app:∀a b:List Chg,chgsC (a++b)=chgsC a++chgsC b
 |[],_=>rfl
 |c::a,b=>by rw[List.cons_append,chgsC,chgsC_app a b,chgsC,List.append_assoc]
def LooseAt(h:AHeap)(v:AV)(l:List Chg):Prop:=(v=.nsl∧l=[])∨∃c,v=.sl c 0 l.length 3∧RowH h c TChg (chgsC l)∧c<h.next
theorem fitChg:fitB Try.prog TChg 32=true:=by kernel_rfl
theorem bldSlChg(h:AHeap)(k:Int)(s:Bytes)(n:Int):bldSl Try.prog h TChgs 1 [(0,.agg [.int .i64 k,strA s,.int .i64 n])]=outNewS h TChg [.int .i64 k,strA s,.int .i64 n] 1 3:=by kernel_rfl
theorem idx3{b m i:Nat}(h:i<m):idxP 3 (.sl b 0 m 3) (i:Int)=some (.ptr b (0+i*3)):=by
 have e:Nat.blt i m=true:=by simpa using h
 show (match Nat.blt i m with|true=>some (AV.ptr b (0+i*3))|false=>none)=_;rw[e]
theorem firstRow{h:AHeap}{b e sz:Nat}{r:List AV}(kr:RowH h b e r)(hr:r.length=sz):firstA h sz (0+1) (.sl b 0 1 sz)=some r:=by
 rw[Nat.zero_add,firstA_of_row (Nat.le_refl _),Nat.one_mul];have:=kr.part (o:=0) (n:=r.length) (by omega);rw[List.drop_zero,List.take_length,hr] at this;exact this
section
variable {h h':AHeap}{v:AV}{l:List Chg}{b1:Nat}{c:Chg}
theorem LooseAt.tch{S:List Nat}(k:LooseAt h v l)(t:Tch S h h')(hd:∀b∈blkV v,b ∉ S):LooseAt h' v l:=by
 rcases k with k|⟨c,rfl,h2,h3⟩
 ·exact .inl k
 ·exact .inr ⟨c,rfl,h2.tch t h3 (hd c (List.mem_singleton.2 rfl)),Nat.lt_of_lt_of_le h3 t.1⟩
theorem LooseAt.lt(k:LooseAt h v l):∀b∈blkV v,b<h.next:=by
 rcases k with⟨rfl,_⟩|⟨c,rfl,_,h3⟩
 ·exact fun b hb=>nomatch hb
 ·intro b hb
  rw[List.mem_singleton.1 hb];exact h3
theorem LooseAt.one(k:LooseAt h v l):v.one=true∧AV.cells v=[v]:=by
 rcases k with⟨rfl,rfl⟩|⟨c,rfl,_⟩<;>exact⟨rfl,rfl⟩
theorem chgs_ld{c i:Nat}{rest:List AV}(k:RowH h c TChg (chgsC l++rest))(hi:i<l.length):ldRow h 3 (.ptr c (0+i*3))=some (chgC l[i]):=by
 have e:chgsC l=chgsC (l.take i)++(chgC l[i]++chgsC (l.drop (i+1))):=by
  have:=chgsC_app (l.take i) (l.drop i);rw[List.take_append_drop] at this;rw[this,List.drop_eq_getElem_cons hi,chgsC]
 have hl:(chgsC (l.take i)).length=0+i*3:=by rw[chgsC_len,List.length_take];omega
 rw[k.ld (by rw[List.length_append,chgsC_len];omega),e,List.append_assoc,List.append_assoc,List.drop_left' hl]
 congr 1
theorem LooseAt.rd{S:List Nat}(k:LooseAt h v l)(hS:∀b∈blkV v,b ∉ S):RdL h S v l:=by
 rcases k with⟨rfl,rfl⟩|⟨c,rfl,h2,h3⟩
 ·exact⟨rfl,fun _ _ i hi=>absurd hi (Nat.not_lt_zero _)⟩
 ·refine ⟨rfl, fun H t i hi => ⟨_, idx3 hi, ?_⟩⟩
  have k2:=h2.tch t h3 (hS c (List.mem_singleton.2 rfl));exact chgs_ld (rest:=[]) (by rw[List.append_nil];exact k2) hi
theorem LooseAt.push(k:LooseAt h v l)(kr:RowH h b1 TChg (chgC c))(hm:l.length<20000000)(hx:h.ex=[]):
  ∃h',opAppend Try.prog h TChgs TChgs v (.sl b1 0 1 3)=some (.val (.sl h.next 0 (l.length+1) 3),h')∧LooseAt h' (.sl h.next 0 (l.length+1) 3) (l++[c])∧Tch (blkV v) h h':=by
 have he:Abs.elemOf Try.prog TChgs=some TChg:=by kernel_rfl
 have hu:notInt Try.prog TChgs=true:=by kernel_rfl
 have hsz:Try.prog.cellsOf TChg=3:=by kernel_rfl
 have hex:memB TChg h.ex=false:=by rw[hx];rfl
 have eb:chgsC (l++[c])=chgsC l++chgC c:=by
  rw[chgsC_app];show chgsC l++(chgC c++[])=_;rw[List.append_nil]
 have el:l.length+1=(l++[c]).length:=by rw[List.length_append,List.length_singleton]
 rcases k with⟨rfl,rfl⟩|⟨b,rfl,h2,h3⟩
 ·have a1 := append_new (P := Try.prog) (h := h) (t := TChgs) (u := TChgs) (n := 0) (x := .sl b1 0 1 3) he hu hsz rfl (firstRow kr rfl) (bytesFit_of fitChg (by omega) (by omega)) rfl hex
  refine⟨_,a1,.inr ⟨h.next,by rw[el],?_,Nat.lt_succ_self _⟩,Tch.newH _ _ _ _⟩;rw[eb];exact RowH.new _ _ _
 ·have hcl := chgsC_len l
  have a1:=append_more (P:=Try.prog) (h:=h) (t:=TChgs) (u:=TChgs) (b:=b) (o:=0) (m:=l.length) (n:=0) (x:=.sl b1 0 1 3) (cs:=chgsC l) he hu hsz rfl (firstRow kr rfl) (bytesFit_of fitChg (by omega) (by omega)) rfl hex (by
   have:=h2.part (o:=0) (n:=(chgsC l).length) (by omega);rw[List.drop_zero,List.take_length] at this;rw[show l.length*3=(chgsC l).length by omega];exact this) h2.type
  refine⟨_,a1,.inr ⟨h.next,by rw[el],?_,Nat.lt_succ_self _⟩,(Tch.put (S:=[b]) (.inl (List.mem_singleton.2 rfl)) _).trans (Tch.newH _ _ _ _)⟩;rw[eb];exact RowH.new (h.put b .dead) _ _
end
structure FileS where
 sure:Cont
 seen:Cont
 loose:List Chg
def upd{α:Type}(f:Nat→α)(i:Nat)(x:α):Nat→α:=fun j=>if j=i then x else f j
def FileOk(x:FileS)(B:Nat):Prop:=x.seen=doL x.sure x.loose∧Legal x.sure x.loose∧x.sure.u.length+sumL x.loose≤B∧x.loose.length≤B
structure FileC (D:List AV) (f:Nat) (x:FileS) (w:Nat→AV):Prop where
 c0:D[5*f]? =some (.bool x.sure.th)
 c1:D[5*f+1]? =some (w 0)
 c2:D[5*f+2]? =some (.bool x.seen.th)
 c3:D[5*f+3]? =some (w 1)
 c4:D[5*f+4]? =some (w 2)
structure FileM (h:AHeap) (x:FileS) (w:Nat→AV):Prop where
 sure:BufAt h (w 0) x.sure.u
 seen:BufAt h (w 1) x.seen.u
 loose:LooseAt h (w 2) x.loose
structure DiskAt (lo:Nat→Prop) (h:AHeap) (db:Nat) (D:List AV) (fs:Nat→FileS) (vs:Nat→Nat→AV) (p:Int) (ops B:Nat):Prop where
 row:RowH h db TDisk D
 hdb:db<h.next
 hlo:lo db
 len:D.length=162
 cells:∀f,f<32→FileC D f (fs f) (vs f)
 cp:D[160]? =some (.int .i64 p)
 co:D[161]? =some (.int .i64 (ops:Int))
 mem:∀f,f<32→FileM h (fs f) (vs f)
 own:∃g:Nat→Nat,g db=0∧∀f k,f<32→k<3→∀b∈blkV (vs f k),g b=3*f+k+1
 low:∀f k,f<32→k<3→∀b∈blkV (vs f k),lo b
 ok:∀f,f<32→FileOk (fs f) B
 ex:h.ex=[]
 hp: -1≤p∧p<9223372036854775808
 ho:ops≤B
 nw:∀b,h.next≤b→lo b
theorem FileM.lt{h:AHeap}{x:FileS}{w:Nat→AV}(k:FileM h x w):∀i,i<3→∀b∈blkV (w i),b<h.next:=by
 intro i hi
 rcases i with _|_|_|i
 ·exact k.sure.lt
 ·exact k.seen.lt
 ·exact k.loose.lt
 ·omega
theorem FileM.tch{h h':AHeap}{S:List Nat}{x:FileS}{w:Nat→AV}(k:FileM h x w)(t:Tch S h h')(hS:∀i,i<3→∀b∈blkV (w i),b ∉ S):FileM h' x w:=
 ⟨k.sure.tch t (hS 0 (by decide)),k.seen.tch t (hS 1 (by decide)),k.loose.tch t (hS 2 (by decide))⟩
section
variable {lo:Nat→Prop}{n d db:Nat}{h h':AHeap}{D D':List AV}{fs:Nat→FileS}{vs:Nat→Nat→AV}{p:Int}{ops B B' f:Nat}
theorem DiskAt.lt(K:DiskAt lo h db D fs vs p ops B){f k:Nat}(hf:f<32)(hk:k<3):∀b∈blkV (vs f k),b<h.next:=(K.mem f hf).lt k hk
theorem DiskAt.nd(K:DiskAt lo h db D fs vs p ops B){f k:Nat}(hf:f<32)(hk:k<3):db ∉ blkV (vs f k):=fun hb=>by
 obtain⟨g,g0,g1⟩:=K.own;have:=g1 f k hf hk _ hb;omega
theorem DiskAt.ne(K:DiskAt lo h db D fs vs p ops B){f k f' k':Nat}(hf:f<32)(hk:k<3)(hf':f'<32)(hk':k'<3)(hne:¬(f=f'∧k=k')):∀b∈blkV (vs f k),b ∉ blkV (vs f' k'):=fun b hb hb'=>by
 obtain⟨g,g0,g1⟩:=K.own;have h1:=g1 f k hf hk _ hb;have h2:=g1 f' k' hf' hk' _ hb';omega
theorem DiskAt.upd{S:List Nat}{x:FileS}{w:Nat→AV}(K:DiskAt lo h db D fs vs p ops B)(hf:f<32)(t:Tch S h h')(hS:∀b∈S,b=db∨∃k,k<3∧b∈blkV (vs f k))(row:RowH h' db TDisk D')(hlen:D'.length=162)(hc:FileC D' f x w)(rest:∀i,(i<5*f∨5*f+5≤i)→D'[i]? =D[i]?)(bw:∀k,k<3→∀b∈blkV (w k),b∈blkV (vs f k)∨h.next≤b)(bd:∀k l,k<3→l<3→k≠l→∀b∈blkV (w k),b ∉ blkV (w l))(hm:FileM h' x w)(hok:FileOk x B')(hB:B≤B'):DiskAt lo h' db D' (upd fs f x) (upd vs f w) p ops B':=by
 obtain⟨g,g0,g1⟩:=K.own;have hle:=t.1;have hdn:=K.hdb
 have ot:∀f',f'<32→f'≠f→∀k,k<3→∀b∈blkV (vs f' k),b ∉ S:=fun f' hf' hne k hk b hb hm=>by
  rcases hS b hm with rfl|⟨k',hk',hb'⟩
  ·exact K.nd hf' hk hb
  ·exact K.ne hf' hk hf hk' (fun h=>hne h.1) b hb hb'
 refine⟨row,Nat.lt_of_lt_of_le hdn hle,K.hlo,hlen,fun f' hf'=>?_,?_,?_,fun f' hf'=>?_,⟨fun b=>if b<h.next then g b else if b∈blkV (w 0) then 3*f+1 else if b∈blkV (w 1) then 3*f+2 else 3*f+3,?_,fun f' k hf' hk b hb=>?_⟩,fun f' k hf' hk b hb=>?_,fun f' hf'=>?_,by rw[t.2.1,K.ex],K.hp,Nat.le_trans K.ho hB,fun b hb=>K.nw b (Nat.le_trans hle hb)⟩
 ·unfold Go.Proofs.Ytfcedccphhmdgaa.upd
  by_cases e:f'=f
  ·rw [if_pos e, if_pos e, e]
   exact hc
  ·rw [if_neg e, if_neg e]
   have hk:=K.cells f' hf';have key:∀j,j<5→D'[5*f'+j]? =D[5*f'+j]?:=fun j hj=>rest _ (by omega);exact⟨(key 0 (by decide)).trans hk.c0,(key 1 (by decide)).trans hk.c1,(key 2 (by decide)).trans hk.c2,(key 3 (by decide)).trans hk.c3,(key 4 (by decide)).trans hk.c4⟩
 ·rw [rest _ (by omega)]
  exact K.cp
 ·rw [rest _ (by omega)]
  exact K.co
 ·unfold Go.Proofs.Ytfcedccphhmdgaa.upd
  by_cases e:f'=f
  ·rw [if_pos e, if_pos e]
   exact hm
  ·rw [if_neg e, if_neg e]
   exact(K.mem f' hf').tch t (ot f' hf' e)
 ·show (if db < h.next then g db else _) = 0
  rw[if_pos hdn];exact g0
 ·show (if b < h.next then g b else _) = _
  unfold Go.Proofs.Ytfcedccphhmdgaa.upd at hb
  by_cases e:f'=f
  ·rw [if_pos e] at hb
   subst e
   by_cases hl:b<h.next
   ·rw [if_pos hl]
    rcases bw k hk b hb with hb'|hb'
    ·exact g1 f' k hf' hk b hb'
    ·omega
   ·rw [if_neg hl]
    rcases k with _|_|_|k
    ·rw[if_pos hb]
    ·rw[if_neg (bd 1 0 (by decide) (by decide) (by decide) b hb),if_pos hb]
    ·rw[if_neg (bd 2 0 (by decide) (by decide) (by decide) b hb),if_neg (bd 2 1 (by decide) (by decide) (by decide) b hb)]
    ·omega
  ·rw [if_neg e] at hb
   rw[if_pos (K.lt hf' hk b hb)];exact g1 f' k hf' hk b hb
 ·unfold Go.Proofs.Ytfcedccphhmdgaa.upd at hb
  by_cases e:f'=f
  ·rw [if_pos e] at hb
   rcases bw k hk b hb with hb'|hb'
   ·exact K.low f k hf hk b hb'
   ·exact K.nw b hb'
  ·rw [if_neg e] at hb
   exact K.low f' k hf' hk b hb
 ·unfold Go.Proofs.Ytfcedccphhmdgaa.upd
  by_cases e:f'=f
  ·rw [if_pos e]
   exact hok
  ·rw [if_neg e]
   obtain⟨o1,o2,o3,o4⟩:=K.ok f' hf';exact⟨o1,o2,by omega,by omega⟩
theorem DiskAt.tch{S:List Nat}(K:DiskAt lo h db D fs vs p ops B)(t:Tch S h h')(hS:∀b∈S,¬lo b∨h.next≤b):DiskAt lo h' db D fs vs p ops B:=by
 have hd:=K.hdb;have hl:=K.hlo;refine⟨K.row.tch t hd fun hb=>?_,Nat.lt_of_lt_of_le hd t.1,hl,K.len,K.cells,K.cp,K.co,fun f hf=>(K.mem f hf).tch t fun k hk b hb hm=>?_,K.own,K.low,K.ok,by rw[t.2.1,K.ex],K.hp,K.ho,fun b hb=>K.nw b (Nat.le_trans t.1 hb)⟩
 ·rcases hS _ hb with hb | hb
  ·exact hb hl
  ·omega
 ·have h2 := K.lt hf hk b hb
  rcases hS _ hm with hm|hm
  ·exact hm (K.low f k hf hk b hb)
  ·omega
theorem eqDisk(b o:Nat)(h:AHeap):opBin Try.prog h .eql 23 true (some (.ptr b o)) (some AV.nilp)=some (.val (.bool false),h):=by kernel_rfl
theorem neqDisk(b o:Nat)(h:AHeap):opBin Try.prog h .neq 23 true (some (.ptr b o)) (some AV.nilp)=some (.val (.bool true),h):=by kernel_rfl
def stepP(p:Int):Int:=if 0<p then p - 1 else p
theorem step_ok(K:DiskAt lo h db D fs vs p ops B)(hB:B<10000000):∃h' D',world n (d+1) 38 [.ptr db 0] h=some (.ret (.tup []),h')∧DiskAt lo h' db D' fs vs (stepP p) (ops+1) (B+1)∧Tch [db] h h':=by
 suffices hK:Wp (world n (d+1) 38 [.ptr db 0] h) fun r h'=>∃D',r=.ret (.tup [])∧DiskAt lo h' db D' fs vs (stepP p) (ops+1) (B+1)∧Tch [db] h h' by
  obtain⟨_,h',e,D',rfl,k⟩:=hK;exact⟨h',D',e,k⟩
 rw[w_disk_Disk_step];unfold disk_Disk_step;have hp:=K.hp;have ho:=K.ho;have hl:=K.len
 have fin:∀{H:AHeap} {E:List AV},RowH H db TDisk E→E.length=162→(∀i,i<160→E[i]? =D[i]?)→E[160]? =some (.int .i64 (stepP p))→E[161]? =some (.int .i64 ((ops+1:Nat):Int))→Tch [db] h H→DiskAt lo H db E fs vs (stepP p) (ops+1) (B+1):=by
  intro H E kr hE hr e1 e2 t;refine⟨kr,Nat.lt_of_lt_of_le K.hdb t.1,K.hlo,hE,fun f hf=>?_,e1,e2,fun f hf=>(K.mem f hf).tch t fun k hk b hb hm=>K.nd hf hk (List.mem_singleton.1 hm▸hb),K.own,K.low,fun f hf=>?_,by rw[t.2.1,K.ex],?_,by omega,fun b hb=>K.nw b (Nat.le_trans t.1 hb)⟩
  ·have hk := K.cells f hf
   have key:∀j,j<5→E[5*f+j]? =D[5*f+j]?:=fun j hj=>hr _ (by omega);exact⟨(key 0 (by decide)).trans hk.c0,(key 1 (by decide)).trans hk.c1,(key 2 (by decide)).trans hk.c2,(key 3 (by decide)).trans hk.c3,(key 4 (by decide)).trans hk.c4⟩
  ·obtain ⟨o1, o2, o3, o4⟩ := K.ok f hf
   exact⟨o1,o2,by omega,by omega⟩
  ·unfold stepP
   split<;>omega
 have c1:=y5 K.row K.co;refine Wp.obind (nilC_ptr _ _) (Wp.obind (fldP_ptr _ _ _) (Wp.obind c1 (Wp.obind (avInt_int _ _) (ye (by omega) (by omega) (Wp.obind (nilC_ptr _ _) (Wp.obind (fldP_ptr _ _ _) (Wp.st1 K.row (show 0+161<D.length by omega) rfl fun h2 k2 t2 n2=>?_)))))))
 have g0:(D.set (0+161) (.int .i64 ((ops:Int)+1)))[0+160]? =some (.int .i64 p):=by
  rw[List.getElem?_set_ne (by omega)];exact K.cp
 have g1:(D.set (0+161) (.int .i64 ((ops:Int)+1)))[161]? =some (.int .i64 ((ops+1:Nat):Int)):=by
  rw[List.getElem?_set_self (by omega)];rfl
 refine Wp.obind (nilC_ptr _ _) (Wp.obind (fldP_ptr _ _ _) (Wp.obind (y5 k2 g0) (Wp.obind (avInt_int _ _) (Wp.lett (y8 fun k17 ek=>?_)))))
 by_cases h0:0<p
 ·refine yc (by rw [decide_eq_true_eq]; exact h0) (Wp.obind (nilC_ptr _ _) (Wp.obind (fldP_ptr _ _ _) (Wp.obind (y5 k2 g0) (Wp.obind (avInt_int _ _) (ye (by omega) (by omega) (Wp.obind (nilC_ptr _ _) (Wp.obind (fldP_ptr _ _ _) (Wp.st1 k2 (show 0 + 160 < _ by rw [List.length_set]; omega) rfl fun h3 k3 t3 n3 => ?_))))))))
  rw[ek];refine Wp.ret ⟨_,rfl,fin k3 (by rw[List.length_set,List.length_set];exact hl) (fun i hi=>by rw[List.getElem?_set_ne (by omega),List.getElem?_set_ne (by omega)]) ?_ (by rw[List.getElem?_set_ne (by omega)];exact g1) (t2.trans t3),t2.trans t3⟩;rw[List.getElem?_set_self (by rw[List.length_set];omega)];unfold stepP;rw[if_pos h0]
 ·refine y7 (by rw [decide_eq_false_iff_not]; exact h0) ?_
  rw[ek];refine Wp.ret ⟨_,rfl,fin k2 (by rw[List.length_set];exact hl) (fun i hi=>by rw[List.getElem?_set_ne (by omega)]) ?_ g1 t2,t2⟩;have g0':=g0;rw[Nat.zero_add] at g0';unfold stepP;rw[if_neg h0];exact g0'
theorem on_w(K:DiskAt lo h db D fs vs p ops B):world n (d+1) 50 [.ptr db 0] h=some (.ret (.bool (decide (p≠0))),h):=by
 apply Wp.eq;rw[w_disk_Disk_On];unfold disk_Disk_On
 have e:(p != 0)=decide (p≠0):=by
  by_cases h0:p=0
  ·subst h0
   rfl
  ·rw[bne_iff_ne.2 h0,decide_eq_true h0]
 refine Wp.outK (neqDisk db 0 h) (Wp.obind (avBool_bool _) (y8 fun j11 ej=>yc rfl (Wp.obind (nilC_ptr _ _) (Wp.obind (fldP_ptr _ _ _) (Wp.obind (y5 K.row (by rw[Nat.zero_add];exact K.cp)) (Wp.obind (avInt_int _ _) (Wp.lett ?_)))))));rw[ej,e];exact Wp.ret ⟨rfl,rfl⟩
theorem isFile_w(z:Int):world n (d+1) 35 [.int .i64 z] h=some (.ret (.bool (decide (0≤z∧z<32))),h):=by
 apply Wp.eq;rw[w_disk_isFile];refine y3d ?_
 suffices hK:Wp (disk_isFile (world n d) n z h) fun r h'=>r=.ret (.bool (decide (0≤z∧z<32)))∧h'=h from hK.mono fun r h' ⟨e,t⟩=>⟨by rw[t];exact(Tch.refl [] h).above,by rw[e];rfl,e,rfl⟩
 unfold disk_isFile;refine Wp.lett (y8 fun j8 ej=>?_)
 by_cases h0:0≤z
 ·refine yc (by rw [decide_eq_true_eq]; exact h0) (Wp.lett ?_)
  rw[ej];have e:decide (z<32)=decide (0≤z∧z<32):=decide_eq_decide.2 ⟨fun h=>⟨h0,h⟩,fun h=>h.2⟩;rw[e];exact Wp.ret ⟨rfl,rfl⟩
 ·refine y7 (by rw [decide_eq_false_iff_not]; exact h0) ?_
  rw[ej,decide_eq_false (show ¬(0≤z∧z<32) from fun h=>h0 h.1)];exact Wp.ret ⟨rfl,rfl⟩
def refP(p z:Int):Int:=if p=0 then 40 else if 0≤z∧z<32 then 0 else 2
theorem refuses_w(K:DiskAt lo h db D fs vs p ops B)(z:Int):world n (d+2) 36 [.ptr db 0,.int .i64 z] h=some (.ret (.int .i64 (refP p z)),h):=by
 apply Wp.eq;rw[w_disk_Disk_refuses];unfold disk_Disk_refuses;refine Wp.outK (eqDisk db 0 h) (Wp.obind (avBool_bool _) (y7 rfl (Wp.callN (on_w K) (Wp.obind (avBool_bool _) ?_))));unfold refP
 by_cases h0:p=0
 ·rw [if_pos h0, decide_eq_false (show ¬ p ≠ 0 from fun h => h h0)]
  repeat(first|(with_reducible first|refine y25 (fun _ _=>?_)|refine y19 (fun _ _=>?_)|refine Wp.join2 (fun _ _=>?_))|((with_reducible first|refine ye ?_ ?_ ?_|refine y1e ?_ ?_ ?_|refine Wp.lettu8 ?_ ?_ ?_|refine y1b ?_ ?_ ?_);omega;omega)|(with_reducible refine Wp.lett ?_)|((with_reducible apply Wp.obind);first|(with_reducible first|exact avInt_int _ _|exact avBool_bool _|exact avStr_str _|exact nilC_ptr _ _|exact fldP_ptr _ _ _|exact avAgg_agg _|exact extT_0 _ _|exact extT_1 _ _ _|exact extT_2 _ _ _ _|assumption)|((with_reducible first|apply y5|apply RowH.ldAll);(with_reducible assumption);rfl))|((with_reducible refine yc ?_ ?_);first|(with_reducible first|rfl|assumption|exact Bool.not_false)|((with_reducible first|apply decide_eq_true|apply not_df|apply bne_t|apply beq_t);omega))|((with_reducible refine y7 ?_ ?_);first|(with_reducible first|rfl|assumption|exact Bool.not_true)|((with_reducible first|apply decide_eq_false|apply not_dt|apply bne_f|apply beq_f);omega))|((with_reducible first|apply Wp.callN|apply Wp.callK);(with_reducible assumption))|(with_reducible first|(apply Wp.outK;assumption)|(first|refine y33 (by assumption) ?_|refine y2a (by assumption) ?_|refine Wp.go2 (by assumption) ?_))|rw[newP_eq])
  exact Wp.ret ⟨rfl,rfl⟩
 ·rw [if_neg h0, decide_eq_true (show p ≠ 0 from h0)]
  refine Wp.lett (y7 rfl (Wp.callN (isFile_w z) (Wp.obind (avBool_bool _) ?_)))
  by_cases h1:0≤z∧z<32
  ·rw [if_pos h1, decide_eq_true h1]
   repeat(first|(with_reducible first|refine y25 (fun _ _=>?_)|refine y19 (fun _ _=>?_)|refine Wp.join2 (fun _ _=>?_))|((with_reducible first|refine ye ?_ ?_ ?_|refine y1e ?_ ?_ ?_|refine Wp.lettu8 ?_ ?_ ?_|refine y1b ?_ ?_ ?_);omega;omega)|(with_reducible refine Wp.lett ?_)|((with_reducible apply Wp.obind);first|(with_reducible first|exact avInt_int _ _|exact avBool_bool _|exact avStr_str _|exact nilC_ptr _ _|exact fldP_ptr _ _ _|exact avAgg_agg _|exact extT_0 _ _|exact extT_1 _ _ _|exact extT_2 _ _ _ _|assumption)|((with_reducible first|apply y5|apply RowH.ldAll);(with_reducible assumption);rfl))|((with_reducible refine yc ?_ ?_);first|(with_reducible first|rfl|assumption|exact Bool.not_false)|((with_reducible first|apply decide_eq_true|apply not_df|apply bne_t|apply beq_t);omega))|((with_reducible refine y7 ?_ ?_);first|(with_reducible first|rfl|assumption|exact Bool.not_true)|((with_reducible first|apply decide_eq_false|apply not_dt|apply bne_f|apply beq_f);omega))|((with_reducible first|apply Wp.callN|apply Wp.callK);(with_reducible assumption))|(with_reducible first|(apply Wp.outK;assumption)|(first|refine y33 (by assumption) ?_|refine y2a (by assumption) ?_|refine Wp.go2 (by assumption) ?_))|rw[newP_eq])
   exact Wp.ret ⟨rfl,rfl⟩
  ·rw [if_neg h1, decide_eq_false h1]
   repeat(first|(with_reducible first|refine y25 (fun _ _=>?_)|refine y19 (fun _ _=>?_)|refine Wp.join2 (fun _ _=>?_))|((with_reducible first|refine ye ?_ ?_ ?_|refine y1e ?_ ?_ ?_|refine Wp.lettu8 ?_ ?_ ?_|refine y1b ?_ ?_ ?_);omega;omega)|(with_reducible refine Wp.lett ?_)|((with_reducible apply Wp.obind);first|(with_reducible first|exact avInt_int _ _|exact avBool_bool _|exact avStr_str _|exact nilC_ptr _ _|exact fldP_ptr _ _ _|exact avAgg_agg _|exact extT_0 _ _|exact extT_1 _ _ _|exact extT_2 _ _ _ _|assumption)|((with_reducible first|apply y5|apply RowH.ldAll);(with_reducible assumption);rfl))|((with_reducible refine yc ?_ ?_);first|(with_reducible first|rfl|assumption|exact Bool.not_false)|((with_reducible first|apply decide_eq_true|apply not_df|apply bne_t|apply beq_t);omega))|((with_reducible refine y7 ?_ ?_);first|(with_reducible first|rfl|assumption|exact Bool.not_true)|((with_reducible first|apply decide_eq_false|apply not_dt|apply bne_f|apply beq_f);omega))|((with_reducible first|apply Wp.callN|apply Wp.callK);(with_reducible assumption))|(with_reducible first|(apply Wp.outK;assumption)|(first|refine y33 (by assumption) ?_|refine y2a (by assumption) ?_|refine Wp.go2 (by assumption) ?_))|rw[newP_eq])
   exact Wp.ret ⟨rfl,rfl⟩
end
theorem idxF{b i:Nat}(h:i<32):idxA 32 5 (.ptr b (0+0)) (i:Int)=some (.ptr b (5*i)):=by
 have e:Nat.blt i 32=true:=by simpa using h
 show (match Nat.blt i 32 with|true=>some (AV.ptr b (0+0+i*5))|false=>none)=_;rw[e,show 0+0+i*5=5*i by omega]
section
variable {lo:Nat→Prop}{n d db:Nat}{h:AHeap}{D:List AV}{fs:Nat→FileS}{vs:Nat→Nat→AV}{p:Int}{ops B f:Nat}
def moreF(x:FileS)(c:Chg):FileS:=⟨x.sure,do1 x.seen c,x.loose++[c]⟩
theorem moreF_ok{x:FileS}{c:Chg}{B:Nat}(k:FileOk x B)(hl:legal x.seen c):FileOk (moreF x c) (B+c.s.length+1):=by
 obtain⟨k1,k2,k3,k4⟩:=k;refine⟨?_,?_,?_,?_⟩
 ·show do1 x.seen c = doL x.sure (x.loose ++ [c])
  rw[doL_snoc, ←k1]
 ·exact Legal_snoc _ _ _ k2 (by show legal (doL x.sure x.loose) c;rw[←k1];exact hl)
 ·show x.sure.u.length + sumL (x.loose ++ [c]) ≤ _
  rw[sumL_snoc];omega
 ·show (x.loose ++ [c]).length ≤ _
  rw[List.length_append,List.length_singleton];omega
theorem change_ok(hn:1000000<n)(K:DiskAt lo h db D fs vs p ops B)(hf:f<32){c:Chg}(hL:legal (fs f).seen c)(hb:B+c.s.length<9000000):
  ∃h' D' vs' S,world n (d+2) 49 [.ptr db 0,.int .i64 (f:Int),.agg (chgC c)] h=some (.ret (.int .i64 0),h')∧DiskAt lo h' db D' (upd fs f (moreF (fs f) c)) vs' (stepP p) (ops+1) (B+c.s.length+2)∧Tch S h h'∧∀b∈S,lo b:=by
 suffices hK:Wp (world n (d+2) 49 [.ptr db 0,.int .i64 (f:Int),.agg (chgC c)] h) fun r h'=>∃D' vs' S,r=.ret (.int .i64 0)∧DiskAt lo h' db D' (upd fs f (moreF (fs f) c)) vs' (stepP p) (ops+1) (B+c.s.length+2)∧Tch S h h'∧∀b∈S,lo b by
  obtain⟨_,h',e,D',vs',S,rfl,k⟩:=hK;exact⟨h',D',vs',S,e,k⟩
 have C:=K.cells f hf;have Mf:=K.mem f hf;obtain⟨o1,o2,o3,o4⟩:=K.ok f hf;have hlen:=K.len;have hdb:=K.hdb;have hsl:=doL_len (fs f).loose (fs f).sure;rw[←o1] at hsl;rw[w_disk_Disk_change];unfold disk_Disk_change;refine y17 (Mem.nil [] h) rfl fun h2 M2=>?_;have t2:=M2.tch;refine Wp.obind (nilC_ptr _ _) (Wp.obind (fldP_ptr _ _ _) (Wp.obind (idxF hf) (Wp.obind (nilC_ptr _ _) (Wp.obind (fldP_ptr _ _ _) (Wp.obind (RowH.ldAll M2.at0.1 rfl) (y31 M2 (bldSlChg _ _ _ _) rfl (by rw[K.ex];rfl) fun h3 M3=>?_))))));have t3:=M3.tch;have hn2:=t2.1;have hh2:=M2.at0.2.1;have hh3:=M3.at0.2.1;have hne1:h.next≠h2.next:=by omega
 have rd:RdL h3 (db::blkV (vs f 1)) (.sl h2.next 0 1 3) [c]:=by
  refine⟨rfl,fun H t i hi=>?_⟩
  have hi0:i=0:=by
   have:i<1:=hi;omega
  subst hi0;refine⟨_,idx3 (by decide),(RowH.ldAll (M3.at0.1.tch t hh3 fun hm=>?_) rfl)⟩
  rcases List.mem_cons.1 hm with hm|hm
  ·omega
  ·have := K.lt hf (k := 1) (by decide) _ hm
   omega
 obtain⟨h4,v4,e4,K4⟩:=do_ok (n:=n) (d:=d) (T:=TDisk) (o:=5*f+2) (x:=(fs f).seen) hn (Nat.lt_of_lt_of_le hdb t3.1) (K.row.tch t3 hdb (by simp)) C.c2 C.c3 (Mf.seen.tch t3 (fun _ _=>by simp)) (K.nd hf (by decide)) (by rw[t3.2.1,K.ex]) rd (by show 1<1000000;decide) ⟨hL,trivial⟩ (by show _+(c.s.length+0)≤_;omega);refine Wp.callN e4 (Wp.obind (nilC_ptr _ _) (Wp.obind (fldP_ptr _ _ _) ?_));have hd4:doL (fs f).seen [c]=do1 (fs f).seen c:=rfl;rw[hd4] at K4
 have g4:((D.set (5*f+2) (.bool (do1 (fs f).seen c).th)).set (5*f+2+1) v4)[5*f+4]? =some (vs f 2):=by
  rw[List.getElem?_set_ne (by omega),List.getElem?_set_ne (by omega)];exact C.c4
 have hn34:=K4.tch.1
 have hb1:h.next ∉ db::blkV (vs f 1):=fun hm=>by
  rcases List.mem_cons.1 hm with hm|hm
  ·omega
  ·have := K.lt hf (k := 1) (by decide) _ hm
   omega
 have kb4:=M3.at1.1.tch K4.tch M3.at1.2.1 hb1;refine Wp.obind (y5 K4.row g4) (Wp.obind (RowH.ldAll kb4 rfl) (y31 (Mem.nil [] h4) (bldSlChg _ _ _ _) rfl (by rw[K4.ex];rfl) fun h5 M5=>?_));have t5:=M5.tch;have hdb3:db<h3.next:=Nat.lt_of_lt_of_le hdb t3.1;have hdb4:db<h4.next:=Nat.lt_of_lt_of_le hdb3 hn34;have kr5:=K4.row.tch t5 hdb4 (by simp);refine Wp.chk (and_t rfl (and_t (reLoad_c (by kernel_rfl) (y5 kr5 g4)) rfl)) ?_
 have dis12:∀b∈blkV (vs f 2),b ∉ db::blkV (vs f 1):=fun b hb hm=>by
  rcases List.mem_cons.1 hm with rfl|hm
  ·exact K.nd hf (by decide) hb
  ·exact K.ne hf (by decide) hf (by decide) (fun h=>absurd h.2 (by decide)) b hb hm
 have kl5:=((Mf.loose.tch t3 (fun _ _=>by simp)).tch K4.tch dis12).tch t5 (fun _ _=>by simp);obtain⟨h6,e6,kl6,t6⟩:=kl5.push M5.at0.1 (by omega) (by rw[t5.2.1,K4.ex]);refine Wp.outK e6 (Wp.obind (nilC_ptr _ _) (Wp.obind (fldP_ptr _ _ _) ?_));have hn5:=t5.1;have hn6:=t6.1;have hdb5:db<h5.next:=Nat.lt_of_lt_of_le hdb4 hn5;have kr6:=kr5.tch t6 hdb5 (K.nd hf (by decide));have l6:((D.set (5*f+2) (.bool (do1 (fs f).seen c).th)).set (5*f+2+1) v4).length=162:=by rw[List.length_set,List.length_set];exact hlen
 show Wp (Abs.obind (stRow h6 1 [AV.sl h5.next 0 ((fs f).loose.length+1) 3] (.ptr db (5*f+4))) _) _;refine Wp.st1 kr6 (show 5*f+4<_ by omega) rfl fun h7 k7 t7 n7=>?_
 -- the disk behind it
 have n35:h3.next≤h5.next:=Nat.le_trans hn34 hn5;have hv4:∀b∈blkV v4,b<h5.next:=fun b hb=>Nat.lt_of_lt_of_le (K4.buf.lt b hb) hn5;have hv4s:∀b∈blkV v4,b∈blkV (vs f 1)∨h.next≤b:=fun b hb=>(K4.sub b hb).imp id fun h=>Nat.le_trans t3.1 h
 have T:Tch (db::(blkV (vs f 1)++blkV (vs f 2))) h h7:=by
  refine((((t3.mono fun b hb=>nomatch hb).trans (K4.tch.mono fun b hb=>.inl ?_)).trans' t5 fun b hb=>nomatch hb).trans' t6 fun b hb=>.inl ?_).trans' t7 fun b hb=>.inl ?_
  ·rcases List.mem_cons.1 hb with hb | hb
   ·rw[hb];exact List.mem_cons_self
   ·exact List.mem_cons_of_mem _ (List.mem_append_left _ hb)
  ·exact List.mem_cons_of_mem _ (List.mem_append_right _ hb)
  ·rw[List.mem_singleton.1 hb];exact List.mem_cons_self
 have hw:∀b∈blkV (.sl h5.next 0 ((fs f).loose.length+1) 3),b=h5.next:=fun b hb=>List.mem_singleton.1 hb;have KU:=K.upd (B':=B+c.s.length+1) (x:=moreF (fs f) c) (w:=fun k=>if k=0 then vs f 0 else if k=1 then v4 else .sl h5.next 0 ((fs f).loose.length+1) 3) hf T (fun b hb=>?_) k7 (by rw[List.length_set];exact l6) ⟨?_,?_,?_,?_,?_⟩ (fun i hi=>?_) (fun k hk b hb=>?_) (fun k l hk hl hne b hb hb'=>?_) ⟨?_,?_,?_⟩ (moreF_ok (K.ok f hf) hL) (by omega)
 ·obtain ⟨h8, D8, e8, K8, t8⟩ := step_ok (n := n) (d := d) KU (by omega)
  refine Wp.callN e8 (Wp.ret ⟨D8,_,db::(blkV (vs f 1)++blkV (vs f 2)),rfl,K8,T.trans' t8 fun b hb=>.inl (by rw[List.mem_singleton.1 hb];exact List.mem_cons_self),fun b hb=>?_⟩)
  rcases List.mem_cons.1 hb with hb|hb
  ·rw [hb]
   exact K.hlo
  ·rcases List.mem_append.1 hb with hb | hb
   ·exact K.low f 1 hf (by decide) b hb
   ·exact K.low f 2 hf (by decide) b hb
 ·rcases List.mem_cons.1 hb with hb | hb
  ·exact .inl hb
  ·rcases List.mem_append.1 hb with hb | hb
   ·exact .inr ⟨1,by decide,hb⟩
   ·exact .inr ⟨2,by decide,hb⟩
 ·rw [List.getElem?_set_ne (by omega), List.getElem?_set_ne (by omega), List.getElem?_set_ne (by omega)]
  exact C.c0
 ·rw [List.getElem?_set_ne (by omega), List.getElem?_set_ne (by omega), List.getElem?_set_ne (by omega)]
  exact C.c1
 ·rw [List.getElem?_set_ne (by omega), List.getElem?_set_ne (by omega), List.getElem?_set_self (by omega)]
  rfl
 ·rw [List.getElem?_set_ne (by omega), List.getElem?_set_self (by rw [List.length_set]; omega)]
  rfl
 ·rw [List.getElem?_set_self (by omega)]
  rfl
 ·rw[List.getElem?_set_ne (by omega),List.getElem?_set_ne (by omega),List.getElem?_set_ne (by omega)]
 ·rcases k with _ | _ | k
  ·exact .inl hb
  ·exact hv4s b hb
  ·right
   have:=hw b hb;omega
 ·have k0 : ∀ k, k < 3 → ∀ b ∈ blkV ((fun k => if k = 0 then vs f 0 else if k = 1 then v4 else AV.sl h5.next 0 ((fs f).loose.length + 1) 3) k), (k = 0 ∧ b ∈ blkV (vs f 0)) ∨ (k = 1 ∧ b ∈ blkV v4) ∨ (k = 2 ∧ b = h5.next) := by
   intro k hk b hb
   rcases k with _|_|_|k
   ·exact .inl ⟨rfl,hb⟩
   ·exact .inr (.inl ⟨rfl,hb⟩)
   ·exact .inr (.inr ⟨rfl,hw b hb⟩)
   ·omega
  have q01:b∈blkV (vs f 0)→b∈blkV v4→False:=fun h0 h1=>by
   rcases hv4s b h1 with h1|h1
   ·exact K.ne hf (by decide) hf (by decide) (fun h=>absurd h.2 (by decide)) b h0 h1
   ·have := K.lt hf (k := 0) (by decide) b h0
    omega
  have q02:b∈blkV (vs f 0)→b<h5.next:=fun h0=>by
   have:=K.lt hf (k:=0) (by decide) b h0;have:=t3.1;omega
  rcases k0 k hk b hb with⟨e1,b1⟩|⟨e1,b1⟩|⟨e1,b1⟩<;>rcases k0 l hl b hb' with⟨e2,b2⟩|⟨e2,b2⟩|⟨e2,b2⟩
  ·omega
  ·exact q01 b1 b2
  ·have := q02 b1
   omega
  ·exact q01 b2 b1
  ·omega
  ·have := hv4 b b1
   omega
  ·have := q02 b2
   omega
  ·have := hv4 b b2
   omega
  ·omega
 ·refine Mf.sure.tch T fun b hb hm => ?_
  rcases List.mem_cons.1 hm with rfl|hm
  ·exact K.nd hf (by decide) hb
  ·rcases List.mem_append.1 hm with hm | hm
   ·exact K.ne hf (by decide) hf (by decide) (fun h=>absurd h.2 (by decide)) b hb hm
   ·exact K.ne hf (by decide) hf (by decide) (fun h=>absurd h.2 (by decide)) b hb hm
 ·refine ((K4.buf.tch t5 (fun _ _ => by simp)).tch t6 fun b hb hm => ?_).tch t7 fun b hb hm => K4.ndb (List.mem_singleton.1 hm ▸ hb)
  rcases hv4s b hb with hb|hb
  ·exact K.ne hf (by decide) hf (by decide) (fun h=>absurd h.2 (by decide)) b hb hm
  ·have := K.lt hf (k := 2) (by decide) b hm
   omega
 ·refine kl6.tch t7 fun b hb hm => ?_
  have h1:=hw b hb;have h2:=List.mem_singleton.1 hm;omega
end
open Go.RowKit Abs
structure DS where
 fs:Nat→FileS
 p:Int
 ops:Nat
def At(lo:Nat→Prop)(h:AHeap)(db:Nat)(s:DS)(B:Nat):Prop:=∃D vs,DiskAt lo h db D s.fs vs s.p s.ops B
def ownE(x:FileS)(c:Chg):Int:=if c.k=0 then (if (1048576:Int) - (x.seen.u.length:Int)<(c.s.length:Int) then 8 else 0) else if x.seen.th=false then 4 else if c.k=1∧(c.n<0∨(x.seen.u.length:Int)<c.n) then 5 else 0
def errP(s:DS)(z:Int)(c:Chg):Int:=if refP s.p z=0 then ownE (s.fs z.toNat) c else refP s.p z
def actD(s:DS)(z:Int)(c:Chg):DS:=if errP s z c=0 then ⟨upd s.fs z.toNat (moreF (s.fs z.toNat) c),stepP s.p,s.ops+1⟩ else s
def synF(x:FileS):FileS:=⟨x.seen,x.seen,[]⟩
def synD(s:DS)(z:Int):DS:=if refP s.p z=0 then ⟨upd s.fs z.toNat (synF (s.fs z.toNat)),stepP s.p,s.ops+1⟩ else s
theorem ref_ok{p z:Int}(h:refP p z=0):p≠0∧∃f:Nat,z=(f:Int)∧f<32:=by
 unfold refP at h
 split at h
 ·omega
 ·split at h
  ·exact⟨by assumption,z.toNat,by omega,by omega⟩
  ·omega
section
variable {lo:Nat→Prop}{n d db:Nat}{h:AHeap}{D:List AV}{fs:Nat→FileS}{vs:Nat→Nat→AV}{p:Int}{ops B f:Nat}{s:DS}
theorem DiskAt.mono{B':Nat}(K:DiskAt lo h db D fs vs p ops B)(hB:B≤B'):DiskAt lo h db D fs vs p ops B':=
 ⟨K.row,K.hdb,K.hlo,K.len,K.cells,K.cp,K.co,K.mem,K.own,K.low,fun f hf=>by obtain⟨o1,o2,o3,o4⟩:=K.ok f hf;exact⟨o1,o2,by omega,by omega⟩,K.ex,K.hp,by have:=K.ho;omega,K.nw⟩
theorem At.mono{B':Nat}(K:At lo h db s B)(hB:B≤B'):At lo h db s B':=by
 obtain⟨D,vs,K⟩:=K;exact⟨D,vs,K.mono hB⟩
theorem At.ex(K:At lo h db s B):h.ex=[]:=by
 obtain⟨D,vs,K⟩:=K;exact K.ex
theorem At.tch{S:List Nat}{h':AHeap}(K:At lo h db s B)(t:Tch S h h')(hS:∀b∈S,¬lo b∨h.next≤b):At lo h' db s B:=by
 obtain⟨D,vs,K⟩:=K;exact⟨D,vs,K.tch t hS⟩
theorem At.part{S:List Nat}{h':AHeap}(K:At lo h db s B)(t:Tch S h h')(hS:∀b∈S,¬lo b∨h.next≤b):At (fun b=>lo b∧(b<h.next∨h'.next≤b)) h' db s B:=by
 obtain⟨D,vs,K⟩:=K;have K':=K.tch t hS;exact⟨D,vs,K'.row,K'.hdb,⟨K'.hlo,.inl K.hdb⟩,K'.len,K'.cells,K'.cp,K'.co,K'.mem,K'.own,fun f k hf hk b hb=>⟨K'.low f k hf hk b hb,.inl (K.lt hf hk b hb)⟩,K'.ok,K'.ex,K'.hp,K'.ho,fun b hb=>⟨K'.nw b hb,.inr hb⟩⟩
def Does(lo:Nat→Prop)(db:Nat)(h:AHeap)(x:R)(e:Int)(s':DS)(B':Nat):Prop:=∃h' S,x=some (.ret (.int .i64 e),h')∧At lo h' db s' B'∧Tch S h h'∧∀b∈S,lo b
theorem Does.of{x:R}{e:Int}{s':DS}{B':Nat}(k:Wp x fun r h'=>r=.ret (.int .i64 e)∧∃S,At lo h' db s' B'∧Tch S h h'∧∀b∈S,lo b):Does lo db h x e s' B':=by
 obtain⟨_,h',e,rfl,S,k⟩:=k;exact⟨h',S,e,k⟩
theorem err_ok{f:Nat}{c:Chg}(h0:refP s.p (f:Int)=0):errP s (f:Int) c=ownE (s.fs f) c:=by
 unfold errP;rw[if_pos h0,Int.toNat_natCast]
theorem act_ok{f:Nat}{c:Chg}(h0:refP s.p (f:Int)=0)(h1:ownE (s.fs f) c=0):actD s (f:Int) c=⟨upd s.fs f (moreF (s.fs f) c),stepP s.p,s.ops+1⟩:=by
 unfold actD;rw[err_ok h0,if_pos h1,Int.toNat_natCast]
theorem act_no{z:Int}{c:Chg}(h1:errP s z c≠0):actD s z c=s:=by
 unfold actD;rw[if_neg h1]
theorem err_ref{z:Int}{c:Chg}(h0:refP s.p z≠0):errP s z c=refP s.p z:=by
 unfold errP;rw[if_neg h0]
theorem append_ok{u:Bytes}{z:Int}(hn:1000000<n)(K:At lo h db s B)(hb:B+u.length<9000000):Does lo db h (world n (d+3) 53 [.ptr db 0,.int .i64 z,strA u] h) (errP s z ⟨0,u,0⟩) (actD s z ⟨0,u,0⟩) (B+u.length+2):=by
 apply Does.of;have KA:=K;obtain⟨D,vs,K⟩:=K;rw[w_disk_Disk_Append];unfold disk_Disk_Append;refine Wp.callN (refuses_w K z) (Wp.obind (avInt_int _ _) (Wp.lett ?_))
 by_cases h0:refP s.p z=0
 ·obtain ⟨hp, f, rfl, hf⟩ := ref_ok h0
  have C:=K.cells f hf;have Mf:=K.mem f hf;obtain⟨o1,o2,o3,o4⟩:=K.ok f hf;have hsl:=doL_len (s.fs f).loose (s.fs f).sure;rw[←o1] at hsl;refine y7 (bne_f h0) (Wp.obind (nilC_ptr _ _) (Wp.obind (fldP_ptr _ _ _) (Wp.obind (idxF hf) (Wp.obind (fldP_ptr _ _ _) (Wp.obind (fldP_ptr _ _ _) (Wp.obind (y5 K.row C.c3) (Wp.obind Mf.seen.len (ye (by omega) (by omega) ?_))))))));have hlu:=lenS_nat u
  have hown:ownE (s.fs f) ⟨0,u,0⟩=if (1048576:Int) - ((s.fs f).seen.u.length:Int)<(u.length:Int) then 8 else 0:=by
   unfold ownE;rw[if_pos rfl]
  refine Wp.lett ?_
  by_cases h1:(1048576:Int) - ((s.fs f).seen.u.length:Int)<(u.length:Int)
  ·rw [if_pos h1] at hown
   have he:=(err_ok h0).trans hown;rw[act_no (by omega),he];exact yc (by rw[decide_eq_true_eq];omega) (Wp.ret ⟨rfl,[],KA.mono (by omega),Tch.refl _ _,fun _ h=>nomatch h⟩)
  ·rw [if_neg h1] at hown
   rw[(err_ok h0).trans hown,act_ok h0 hown];refine y7 (by rw[decide_eq_false_iff_not];omega) ?_;obtain⟨h',D',vs',S,e,K',t,hS⟩:=change_ok (n:=n) (d:=d) hn K hf (c:=⟨0,u,0⟩) (.inl rfl) hb;exact Wp.callN e (Wp.obind (avInt_int _ _) (Wp.ret ⟨rfl,S,⟨D',vs',K'⟩,t,hS⟩))
 ·rw [act_no (by rw [err_ref h0]; exact h0), err_ref h0]
  exact yc (bne_t h0) (Wp.ret ⟨rfl,[],KA.mono (by omega),Tch.refl _ _,fun _ h=>nomatch h⟩)
theorem cut_ok{z m:Int}(hn:1000000<n)(K:At lo h db s B)(hb:B<9000000):Does lo db h (world n (d+3) 34 [.ptr db 0,.int .i64 z,.int .i64 m] h) (errP s z ⟨1,[],m⟩) (actD s z ⟨1,[],m⟩) (B+2):=by
 apply Does.of;have KA:=K;obtain⟨D,vs,K⟩:=K;rw[w_disk_Disk_Cut];unfold disk_Disk_Cut;refine Wp.callN (refuses_w K z) (Wp.obind (avInt_int _ _) (Wp.lett ?_))
 by_cases h0:refP s.p z=0
 ·obtain ⟨hp, f, rfl, hf⟩ := ref_ok h0
  have C:=K.cells f hf;have Mf:=K.mem f hf;have hlen:=Mf.seen.len;refine y7 (bne_f h0) (Wp.obind (nilC_ptr _ _) (Wp.obind (fldP_ptr _ _ _) (Wp.obind (idxF hf) (Wp.obind (fldP_ptr _ _ _) (Wp.obind (nilC_ptr _ _) (Wp.obind (fldP_ptr _ _ _) (Wp.obind (y5 K.row C.c2) (Wp.obind (avBool_bool _) (Wp.lett ?_)))))))))
  have hown:ownE (s.fs f) ⟨1,[],m⟩=if (s.fs f).seen.th=false then 4 else if m<0∨((s.fs f).seen.u.length:Int)<m then 5 else 0:=by
   unfold ownE;rw[if_neg (show ¬(1:Nat)=0 by omega)];simp only[true_and]
  cases hth:(s.fs f).seen.th with
  |false=>
   rw[hth,if_pos rfl] at hown;have he:=(err_ok h0).trans hown;rw[act_no (by omega),he];exact yc rfl (Wp.ret ⟨rfl,[],KA.mono (by omega),Tch.refl _ _,fun _ h=>nomatch h⟩)
  |true=>
   rw[hth,if_neg (by decide)] at hown;refine y7 rfl (Wp.lett (y8 fun j ej=>?_))
   have bad:(m<0∨((s.fs f).seen.u.length:Int)<m)→∀H,H=h→Wp (j true H) fun r h'=>r=.ret (.int .i64 (errP s (f:Int) ⟨1,[],m⟩))∧∃S,At lo h' db (actD s (f:Int) ⟨1,[],m⟩) (B+2)∧Tch S h h'∧∀b∈S,lo b:=by
    intro h1 H hH;rw[if_pos h1] at hown;have he:=(err_ok h0).trans hown;rw[act_no (by omega),he,ej,hH];exact yc rfl (Wp.ret ⟨rfl,[],KA.mono (by omega),Tch.refl _ _,fun _ h=>nomatch h⟩)
   by_cases h1:m<0
   ·exact yc (by rw[decide_eq_true_eq];exact h1) (bad (.inl h1) _ rfl)
   ·refine y7 (by rw [decide_eq_false_iff_not]; exact h1) ?_
    have step2:∀k:AV→R,(Wp (k (vs f 1)) fun r h'=>r=.ret (.int .i64 (errP s (f:Int) ⟨1,[],m⟩))∧∃S,At lo h' db (actD s (f:Int) ⟨1,[],m⟩) (B+2)∧Tch S h h'∧∀b∈S,lo b)→Wp (Abs.obind (ldCell h (.ptr db (5*f+2+1))) k) fun r h'=>r=.ret (.int .i64 (errP s (f:Int) ⟨1,[],m⟩))∧∃S,At lo h' db (actD s (f:Int) ⟨1,[],m⟩) (B+2)∧Tch S h h'∧∀b∈S,lo b:=fun k hk=>Wp.obind (y5 K.row C.c3) hk;refine Wp.obind (nilC_ptr _ _) (Wp.obind (fldP_ptr _ _ _) (step2 _ (Wp.obind hlen (Wp.lett ?_))))
    by_cases h2:((s.fs f).seen.u.length:Int)<m
    ·rw [decide_eq_true (show m > ((s.fs f).seen.u.length : Int) from h2)]
     exact bad (.inr h2) _ rfl
    ·rw [decide_eq_false (show ¬ m > ((s.fs f).seen.u.length : Int) from h2), ej]
     rw[if_neg (by omega)] at hown;rw[(err_ok h0).trans hown,act_ok h0 hown];refine y7 rfl ?_;obtain⟨h',D',vs',S,e,K',t,hS⟩:=change_ok (n:=n) (d:=d) hn K hf (c:=⟨1,[],m⟩) (.inr (.inl ⟨rfl,(show (0:Int)≤m by omega),(show m≤((s.fs f).seen.u.length:Int) by omega)⟩)) (by show B+0<_;omega);exact Wp.callN e (Wp.obind (avInt_int _ _) (Wp.ret ⟨rfl,S,⟨D',vs',K'⟩,t,hS⟩))
 ·rw [act_no (by rw [err_ref h0]; exact h0), err_ref h0]
  exact yc (bne_t h0) (Wp.ret ⟨rfl,[],KA.mono (by omega),Tch.refl _ _,fun _ h=>nomatch h⟩)
end
theorem flat_rep{r t:List AV}{k:Nat}(hr:r.length=k):∀(m f j:Nat),f<m→j<k→((List.replicate m r).flatten++t)[k*f+j]? =r[j]?
 |0,_,_,h,_=>absurd h (Nat.not_lt_zero _)
 |m+1,0,j,_,hj=>by
  rw[List.replicate_succ,List.flatten_cons,List.append_assoc,Nat.mul_zero,Nat.zero_add,List.getElem?_append_left (by omega)]
 |m+1,f+1,j,h,hj=>by
  rw[List.replicate_succ,List.flatten_cons,List.append_assoc,List.getElem?_append_right (by rw[Nat.mul_succ];omega),hr,show k*(f+1)+j - k=k*f+j by rw[Nat.mul_succ];omega];exact flat_rep hr m f j (by omega) hj
section
variable {lo:Nat→Prop}{n d db:Nat}{h:AHeap}{D:List AV}{fs:Nat→FileS}{vs:Nat→Nat→AV}{p:Int}{ops B f:Nat}{s:DS}
theorem DiskAt.setP{p':Int}{h':AHeap}(K:DiskAt lo h db D fs vs p ops B)(hp: -1≤p'∧p'<9223372036854775808)(kr:RowH h' db TDisk (D.set 160 (.int .i64 p')))(t:Tch [db] h h'):DiskAt lo h' db (D.set 160 (.int .i64 p')) fs vs p' ops B:=by
 have hl:=K.len;refine⟨kr,Nat.lt_of_lt_of_le K.hdb t.1,K.hlo,by rw[List.length_set];exact hl,fun f hf=>?_,by rw[List.getElem?_set_self (by omega)],by rw[List.getElem?_set_ne (by omega)];exact K.co,fun f hf=>(K.mem f hf).tch t fun k hk b hb hm=>K.nd hf hk (List.mem_singleton.1 hm▸hb),K.own,K.low,K.ok,by rw[t.2.1,K.ex],hp,K.ho,fun b hb=>K.nw b (Nat.le_trans t.1 hb)⟩;have hk:=K.cells f hf;have key:∀j,j<5→(D.set 160 (.int .i64 p'))[5*f+j]? =D[5*f+j]?:=fun j hj=>by rw[List.getElem?_set_ne (by omega)]
 exact⟨(key 0 (by decide)).trans hk.c0,(key 1 (by decide)).trans hk.c1,(key 2 (by decide)).trans hk.c2,(key 3 (by decide)).trans hk.c3,(key 4 (by decide)).trans hk.c4⟩
theorem power_ok{m:Int}(hm:m<9223372036854775808)(K:At lo h db s B):Does lo db h (world n (d+1) 17 [.ptr db 0,.int .i64 m] h) 0 ⟨s.fs,if -1>m then -1 else m,s.ops⟩ B:=by
 apply Does.of;obtain⟨D,vs,K⟩:=K;rw[w_disk_Disk_Power];unfold disk_Disk_Power;refine Wp.outK (eqDisk db 0 h) (Wp.obind (avBool_bool _) (y7 rfl (Wp.lett (Wp.obind (nilC_ptr _ _) (Wp.obind (fldP_ptr _ _ _) ?_)))));have hl:=K.len;refine Wp.st1 K.row (show 0+160<D.length by omega) rfl fun h2 k2 t2 n2=>Wp.ret ⟨rfl,[db],⟨_,vs,K.setP (by show -1≤(if -1>m then (-1:Int) else m)∧(if -1>m then (-1:Int) else m)<9223372036854775808;split<;>omega) ?_ t2⟩,t2,fun b hb=>by rw[List.mem_singleton.1 hb];exact K.hlo⟩;rw[Nat.zero_add] at k2;exact k2
abbrev emptyF:FileS:=⟨⟨false,[]⟩,⟨false,[]⟩,[]⟩
abbrev newS:DS:=⟨fun _=>emptyF, -1,0⟩
theorem new_ok(hx:h.ex=[]):∃h',world n (d+1) 6 [] h=some (.ret (.ptr h.next 0),h')∧At (fun b=>h.next≤b) h' h.next newS 0∧Tch [] h h':=by
 suffices hK:Wp (disk_New (world n d) n h) fun r h'=>r=.ret (.ptr h.next 0)∧At (fun b=>h.next≤b) h' h.next newS 0∧Tch [] h h' by
  obtain⟨r,h',e,rfl,k⟩:=hK;refine⟨h',?_,k⟩;rw[w_disk_New,e];refine gcR_some ?_;show Nat.blt h.next h.next=false
  cases e:Nat.blt h.next h.next with
  |false=>rfl
  |true=>
   have:=blt_lt' e;omega
 unfold disk_New;exact Wp.outK (box_agg (by kernel_rfl)) (Wp.ret ⟨rfl,⟨(List.replicate 32 [.bool false,.nsl,.bool false,.nsl,.nsl]).flatten++[.int .i64 (-1),.int .i64 0],fun _ _=>.nsl,RowH.new _ _ _,Nat.lt_succ_self _,Nat.le_refl _,by kernel_rfl,fun f hf=>(⟨flat_rep rfl 32 f 0 hf (by decide),flat_rep rfl 32 f 1 hf (by decide),flat_rep rfl 32 f 2 hf (by decide),flat_rep rfl 32 f 3 hf (by decide),flat_rep rfl 32 f 4 hf (by decide)⟩),by kernel_rfl,by kernel_rfl,fun f hf=>⟨.inl ⟨rfl,rfl⟩,.inl ⟨rfl,rfl⟩,.inl ⟨rfl,rfl⟩⟩,⟨fun _=>0,rfl,fun _ _ _ _ _ hb=>(nomatch hb)⟩,(fun _ _ _ _ _ hb=>(nomatch hb)),fun f hf=>⟨rfl,trivial,Nat.le_refl _,Nat.le_refl _⟩,hx,by decide,Nat.le_refl _,fun b hb=>Nat.le_trans (Nat.le_succ _) hb⟩,Tch.newH _ _ _ _⟩)
theorem synF_ok{x:FileS}(k:FileOk x B):FileOk (synF x) B:=by
 obtain⟨k1,k2,k3,k4⟩:=k;have:=doL_len x.loose x.sure;rw[←k1] at this;exact⟨rfl,trivial,by show x.seen.u.length+0≤B;omega,Nat.zero_le _⟩
theorem sync_ok{z:Int}(hn:1000000<n)(K:At lo h db s B)(hb:B<900000):Does lo db h (world n (d+3) 22 [.ptr db 0,.int .i64 z] h) (refP s.p z) (synD s z) (B+1):=by
 apply Does.of;have KA:=K;obtain⟨D,vs,K⟩:=K;rw[w_disk_Disk_Sync];unfold disk_Disk_Sync;refine Wp.callN (refuses_w K z) (Wp.obind (avInt_int _ _) (Wp.lett ?_))
 by_cases h0:refP s.p z=0
 ·obtain ⟨hp, f, rfl, hf⟩ := ref_ok h0
  have C:=K.cells f hf;have Mf:=K.mem f hf;obtain⟨o1,o2,o3,o4⟩:=K.ok f hf;have hlen:=K.len;have hdb:=K.hdb
  have es:synD s (f:Int)=⟨upd s.fs f (synF (s.fs f)),stepP s.p,s.ops+1⟩:=by
   unfold synD;rw[if_pos h0,Int.toNat_natCast]
  rw[es,h0];refine y7 rfl (Wp.obind (nilC_ptr _ _) (Wp.obind (fldP_ptr _ _ _) (Wp.obind (idxF hf) (Wp.obind (nilC_ptr _ _) (Wp.obind (fldP_ptr _ _ _) (Wp.obind (nilC_ptr _ _) (Wp.obind (fldP_ptr _ _ _) (Wp.obind (y5 K.row C.c4) ?_))))))))
  have dis:∀b∈blkV (vs f 2),b ∉ db::blkV (vs f 0):=fun b hb hm=>by
   rcases List.mem_cons.1 hm with rfl|hm
   ·exact K.nd hf (by decide) hb
   ·exact K.ne hf (by decide) hf (by decide) (fun h=>absurd h.2 (by decide)) b hb hm
  have dis1:∀b∈blkV (vs f 1),b ∉ db::blkV (vs f 0):=fun b hb hm=>by
   rcases List.mem_cons.1 hm with rfl|hm
   ·exact K.nd hf (by decide) hb
   ·exact K.ne hf (by decide) hf (by decide) (fun h=>absurd h.2 (by decide)) b hb hm
  obtain⟨h4,v4,e4,K4⟩:=do_ok (n:=n) (d:=d+1) (T:=TDisk) (o:=5*f+0) (x:=(s.fs f).sure) hn hdb K.row C.c0 C.c1 Mf.sure (K.nd hf (by decide)) K.ex (Mf.loose.rd dis) (by omega) o2 (by omega);refine Wp.callN e4 (Wp.obind (nilC_ptr _ _) (Wp.obind (fldP_ptr _ _ _) ?_));rw[←o1] at K4;have hdb4:db<h4.next:=Nat.lt_of_lt_of_le hdb K4.tch.1;show Wp (Abs.obind (stRow h4 1 [AV.nsl] (.ptr db (5*f+4))) _) _;refine Wp.st1 K4.row (show 5*f+4<_ by rw[List.length_set,List.length_set];omega) rfl fun h7 k7 t7 n7=>?_;have T:Tch (db::blkV (vs f 0)) h h7:=K4.tch.trans' t7 fun b hb=>.inl (by rw[List.mem_singleton.1 hb];exact List.mem_cons_self);have KU:=K.upd (B':=B) (x:=synF (s.fs f)) (w:=fun k=>if k=0 then v4 else if k=1 then vs f 1 else .nsl) hf T (fun b hb=>?_) k7 (by rw[List.length_set,List.length_set,List.length_set];exact hlen) ⟨?_,?_,?_,?_,?_⟩ (fun i hi=>?_) (fun k hk b hb=>?_) (fun k l hk hl hne b hb hb'=>?_) ⟨?_,?_,?_⟩ (synF_ok (K.ok f hf)) (Nat.le_refl _)
  ·obtain ⟨h8, D8, e8, K8, t8⟩ := step_ok (n := n) (d := d + 1) KU (by omega)
   refine Wp.callN e8 (Wp.ret ⟨rfl,db::blkV (vs f 0),⟨D8,_,K8⟩,T.trans' t8 fun b hb=>.inl (by rw[List.mem_singleton.1 hb];exact List.mem_cons_self),fun b hb=>?_⟩)
   rcases List.mem_cons.1 hb with hb|hb
   ·rw [hb]
    exact K.hlo
   ·exact K.low f 0 hf (by decide) b hb
  ·rcases List.mem_cons.1 hb with hb | hb
   ·exact .inl hb
   ·exact .inr ⟨0,by decide,hb⟩
  ·show (((D.set (5 * f + 0) _).set (5 * f + 0 + 1) v4).set (5 * f + 4) AV.nsl)[5 * f + 0]? = _
   rw[List.getElem?_set_ne (by omega),List.getElem?_set_ne (by omega),List.getElem?_set_self (by omega)];rfl
  ·rw [List.getElem?_set_ne (by omega), List.getElem?_set_self (by rw [List.length_set]; omega)]
   rfl
  ·rw [List.getElem?_set_ne (by omega), List.getElem?_set_ne (by omega), List.getElem?_set_ne (by omega)]
   exact C.c2
  ·rw [List.getElem?_set_ne (by omega), List.getElem?_set_ne (by omega), List.getElem?_set_ne (by omega)]
   exact C.c3
  ·rw [List.getElem?_set_self (by rw [List.length_set, List.length_set]; omega)]
   rfl
  ·rw[List.getElem?_set_ne (by omega),List.getElem?_set_ne (by omega),List.getElem?_set_ne (by omega)]
  ·rcases k with _ | _ | k
   ·exact K4.sub b hb
   ·exact .inl hb
   ·exact nomatch hb
  ·have q01 : b ∈ blkV v4 → b ∈ blkV (vs f 1) → False := fun h0 h1 => by
    rcases K4.sub b h0 with h0|h0
    ·exact dis1 b h1 (List.mem_cons_of_mem _ h0)
    ·have := K.lt hf (k := 1) (by decide) b h1
     omega
   rcases k with _|_|k<;>rcases l with _|_|l
   ·omega
   ·exact q01 hb hb'
   ·exact nomatch hb'
   ·exact q01 hb' hb
   ·omega
   ·exact nomatch hb'
   ·exact nomatch hb
   ·exact nomatch hb
   ·exact nomatch hb
  ·exact K4.buf.tch t7 fun b hb hm=>K4.ndb (List.mem_singleton.1 hm▸hb)
  ·exact Mf.seen.tch T dis1
  ·exact .inl ⟨rfl,rfl⟩
 ·have es : synD s z = s := by
   unfold synD;rw[if_neg h0]
  rw[es];exact yc (bne_t h0) (Wp.ret ⟨rfl,[],KA.mono (by omega),Tch.refl _ _,fun _ h=>nomatch h⟩)
end
structure StpR where
 k:Int
 f:Int
 n:Int
 s:Bytes
 v:AV
def StpOk(N:Nat)(h:AHeap)(x:StpR):Prop:=I64 x.k∧I64 x.f∧I64 x.n∧x.s.length≤reachBytes∧∃zs:List Int,Slc N h 1 x.v (zs.map fun z=>[.int .i64 z])∧(∀z∈zs,I64 z)∧zs.length*8≤reachBytes
theorem StpOk.one{N:Nat}{h:AHeap}{x:StpR}(k:StpOk N h x):x.v.one=true:=by
 obtain⟨_,_,_,_,zs,hs,_⟩:=k
 rcases hs.2 with⟨_,e|e⟩|⟨b,_,_,e,_⟩<;>rw[e]<;>rfl
section
variable {h h':AHeap}{v:AV}{u:Bytes}{l:List Chg}
theorem BufAt.conv(k:BufAt h v u):opConv Try.prog h TBy 9 (some v)=some (.val (strA u),h):=by
 rcases k with⟨rfl,rfl⟩|⟨c,rest,rfl,h2,h3⟩
 ·kernel_rfl
 ·refine conv_row (by kernel_rfl) (by kernel_rfl) ?_
  have hcl:=bytesC_length u;have:=h2.part (o:=0) (n:=(bytesC u).length) (by rw[List.length_append];omega);rw[List.drop_zero,List.take_left' rfl,hcl] at this;exact this
theorem eqBy_sl(b m:Nat)(h:AHeap):opBin Try.prog h .eql TBy true (some (.sl b 0 m 1)) (some AV.nsl)=some (.val (.bool false),h):=by kernel_rfl
theorem eqBy_nil(h:AHeap):opBin Try.prog h .eql TBy true (some .nsl) (some AV.nsl)=some (.val (.bool true),h):=by kernel_rfl
theorem bldBy0(h:AHeap):bldSl Try.prog h TBy 0 []=outNewS h 5 [] 0 1:=by kernel_rfl
theorem Wp.mnews0{h:AHeap}{e sz:Nat}{k:AV→AHeap→R}{Q:ARes→AHeap→Prop}{o:OutT}(e1:o=outNewS h e [] 0 sz)(hex:memB e h.ex=false)(hk:Wp (k (.sl h.next 0 0 sz) (newH h e [])) Q):Wp (Abs.outK o k) Q:=by
 refine Wp.outK (v:=.sl h.next 0 0 sz) (h1:=newH h e []) ?_ hk;rw[e1];unfold outNewS;rw[if_pos ⟨rfl,hex⟩];rfl
theorem clone_ok{n d:Nat}(k:BufAt h v u)(hx:h.ex=[])(hm:u.length≤1000000000):∃h' v',world n (d+1) 55 [v] h=some (.ret v',h')∧BufAt h' v' u∧Tch [] h h'∧∀b∈blkV v',h.next≤b:=by
 suffices hK:Wp (world n (d+1) 55 [v] h) fun r h'=>∃v',r=.ret v'∧BufAt h' v' u∧Tch [] h h'∧∀b∈blkV v',h.next≤b by
  obtain⟨_,h',e,v',rfl,k⟩:=hK;exact⟨h',v',e,k⟩
 rw[w_slices_Clone___byte_byte_];unfold slices_Clone___byte_byte_;have he:Abs.elemOf Try.prog TBy=some 5:=by kernel_rfl
 have hu:notInt Try.prog TBy=true:=by kernel_rfl
 have hsz:Try.prog.cellsOf 5=1:=by kernel_rfl
 rcases k with⟨rfl,rfl⟩|⟨c,rest,rfl,h2,h3⟩
 ·exact Wp.outK (eqBy_nil h) (Wp.obind (avBool_bool _) (yc rfl (Wp.ret ⟨_,rfl,.inl ⟨rfl,rfl⟩,Tch.refl _ _,fun _ h=>nomatch h⟩)))
 ·refine Wp.outK (eqBy_sl c u.length h) (Wp.obind (avBool_bool _) (y7 rfl (Wp.mnews0 (bldBy0 h) (by rw [hx]; rfl) ?_)))
  have hex:memB 5 (newH h 5 []).ex=false:=by rw[ex_newH,hx];rfl
  have kn:=RowH.new h 5 [];have hcl:=bytesC_length u;have k2:RowH (newH h 5 []) c 5 (bytesC u++rest):=h2.tch (Tch.newH [] h _ _) h3 (fun h=>nomatch h);have hfit:=bytesFit_of (P:=Try.prog) (e:=5) (B:=1) (k:=0+u.length) fitBy (by omega) (by omega)
  have hpart:rowGet (newH h 5 []) c 0 (bytesC u).length=some (bytesC u):=by
   have:=k2.part (o:=0) (n:=(bytesC u).length) (by rw[List.length_append];omega);rw[List.drop_zero,List.take_left' rfl] at this;exact this
  have hfirst:∀m,m=u.length→firstA (newH h 5 []) 1 m (.sl c 0 u.length 1)=some (bytesC u):=by
   intro m hm;rw[firstA_of_row (by omega),hm,Nat.mul_one, ←hcl];exact hpart
  by_cases h0:u=[]
  ·subst h0
   exact Wp.outK (append_zero (b:=h.next) (o:=0) (m:=0) (n:=0) he hu hsz rfl rfl (hfirst 0 rfl) hfit hex) (Wp.ret ⟨_,rfl,.inr ⟨h.next,[],rfl,kn,Nat.lt_succ_self _⟩,Tch.newH _ _ _ _,fun b hb=>by rw[List.mem_singleton.1 hb];exact Nat.le_refl _⟩)
  ·obtain ⟨m, hm2⟩ : ∃ m, u.length = m + 1 := by
    cases u with
    |nil=>exact absurd rfl h0
    |cons a l=>exact⟨l.length,rfl⟩
   have hlen:lenA (.sl c 0 u.length 1)=some (m+1):=by rw[hm2];rfl
   have a1:=append_more (P:=Try.prog) (h:=newH h 5 []) (t:=TBy) (u:=TBy) (b:=h.next) (o:=0) (m:=0) (n:=m) (x:=.sl c 0 u.length 1) (cs:=[]) he hu hsz hlen (hfirst _ hm2.symm) (by rw[←hm2];exact hfit) (bytesC_one u) hex (by
    have:=kn.part (o:=0) (n:=0) (Nat.le_refl _);exact this) kn.type
   refine Wp.outK a1 (Wp.ret ⟨_,rfl,.inr ⟨h.next+1,[],by rw[hm2,Nat.zero_add];rfl,?_,Nat.lt_succ_self _⟩,((Tch.newH [] h _ _).trans' (Tch.put (S:=[h.next]) (.inl (List.mem_singleton.2 rfl)) .dead) fun b hb=>.inr (by rw[List.mem_singleton.1 hb];exact Nat.le_refl _)).trans (Tch.newH _ _ _ _),fun b hb=>?_⟩)
   ·rw [List.append_nil]
    exact RowH.new ((newH h 5 []).put h.next .dead) _ _
   ·have hb2 : b = h.next + 1 := List.mem_singleton.1 hb
    omega
theorem copy_ok{n d b T o:Nat}{D:List AV}{th:Bool}(kr:RowH h b T D)(hb:b<h.next)(h0:D[o]? =some (.bool th))(h1:D[o+1]? =some v)(k:BufAt h v u)(hx:h.ex=[])(hm:u.length≤1000000000):∃h' v',world n (d+2) 42 [.ptr b o] h=some (.ret (.agg [.bool th,v']),h')∧BufAt h' v' u∧Tch [] h h'∧∀b∈blkV v',h.next≤b:=by
 suffices hK:Wp (world n (d+2) 42 [.ptr b o] h) fun r h'=>∃v',r=.ret (.agg [.bool th,v'])∧BufAt h' v' u∧Tch [] h h'∧∀b∈blkV v',h.next≤b by
  obtain⟨_,h',e,v',rfl,k⟩:=hK;exact⟨h',v',e,k⟩
 rw[w_disk_content_copy];unfold disk_content_copy;refine y11 (Mem.nil [] h) fun h2 M2=>?_;have t2:=M2.tch;have hn2:=t2.1;have kr2:=kr.tch t2 hb (fun h=>nomatch h);have k2:=k.tch t2 (fun _ _ h=>nomatch h);refine Wp.obind (nilC_ptr _ _) (Wp.obind (fldP_ptr _ _ _) (Wp.obind (y5 kr2 h0) (Wp.obind (avBool_bool _) (Wp.obind (nilC_ptr _ _) (Wp.obind (fldP_ptr _ _ _) (Wp.obind (y5 kr2 h1) ?_))))));obtain⟨h3,v',e3,k3,t3,s3⟩:=clone_ok (n:=n) (d:=d) k2 (by rw[t2.2.1,hx]) hm;have hn3:=t3.1;refine Wp.callN e3 ?_;have kr3:=kr2.tch t3 (Nat.lt_of_lt_of_le hb hn2) (fun h=>nomatch h);refine Wp.chk (and_t rfl (and_t (reLoad_c (by kernel_rfl) (y5 kr3 h0)) rfl)) ?_
 have hbld:bldS Try.prog 60 [(0,.bool th),(1,v')]=some [.bool th,v']:=by
  rcases k3 with⟨rfl,rfl⟩|⟨c,rest,rfl,_⟩<;>kernel_rfl
 refine Wp.obind hbld ?_;have hh2:=M2.at0.2.1;have kb3:=M2.at0.1.tch t3 hh2 (fun h=>nomatch h);rw[newP_eq];refine Wp.stAll kb3 rfl rfl (by rw[show [AV.bool th,v'].all AV.one=(true&&(v'.one&&true)) from rfl,k3.one.1];rfl) fun h4 k4 t4 n4=>Wp.obind (RowH.ldAll k4 rfl) (Wp.ret ⟨v',rfl,k3.tch t4 (fun b hb hm=>?_),(t2.trans t3).trans' t4 (fun b hb=>.inr (by rw[List.mem_singleton.1 hb];exact Nat.le_refl _)),fun b hb=>Nat.le_trans hn2 (s3 b hb)⟩);have h1:=s3 b hb;have h2:=List.mem_singleton.1 hm;omega
end
section
variable {lo:Nat→Prop}{n d db:Nat}{h:AHeap}{B:Nat}{s:DS}
def readE(s:DS)(z:Int):Int:=if refP s.p z=0 then (if (s.fs z.toNat).seen.th=true then 0 else 4) else refP s.p z
def readS(s:DS)(z:Int):Bytes:=if refP s.p z=0 then (if (s.fs z.toNat).seen.th=true then (s.fs z.toNat).seen.u else []) else []
theorem read_a{z:Int}(K:At lo h db s B):world n (d+3) 32 [.ptr db 0,.int .i64 z] h=some (.ret (.tup [strA (readS s z),.int .i64 (readE s z)]),h):=by
 apply Wp.eq;obtain⟨D,vs,K⟩:=K;rw[w_disk_Disk_Read];unfold disk_Disk_Read;refine Wp.callN (refuses_w K z) (Wp.obind (avInt_int _ _) (Wp.lett ?_));unfold readE readS
 by_cases h0:refP s.p z=0
 ·obtain ⟨hp, f, rfl, hf⟩ := ref_ok h0
  have C:=K.cells f hf;have Mf:=K.mem f hf;refine y7 (bne_f h0) ?_;rw[if_pos h0,if_pos h0,Int.toNat_natCast];refine Wp.obind (nilC_ptr _ _) (Wp.obind (fldP_ptr _ _ _) (Wp.obind (idxF hf) (Wp.obind (fldP_ptr _ _ _) (Wp.obind (nilC_ptr _ _) (Wp.obind (fldP_ptr _ _ _) (Wp.obind (y5 K.row C.c2) (Wp.obind (avBool_bool _) (Wp.lett ?_))))))));cases hth:(s.fs f).seen.th with
  |false=>
   exact yc rfl (Wp.ret ⟨rfl,rfl⟩)
  |true=>
   refine y7 rfl (Wp.obind (nilC_ptr _ _) (Wp.obind (fldP_ptr _ _ _) ?_));have go:∀k:AV→R,(Wp (k (vs f 1)) fun r' h'=>r'=ARes.ret (AV.tup [strA (if true=true then (s.fs f).seen.u else []),AV.int IntKind.i64 (if true=true then 0 else 4)])∧h'=h)→Wp (Abs.obind (ldCell h (.ptr db (5*f+2+1))) k) fun r' h'=>r'=ARes.ret (AV.tup [strA (if true=true then (s.fs f).seen.u else []),AV.int IntKind.i64 (if true=true then 0 else 4)])∧h'=h:=fun k hk=>Wp.obind (y5 K.row C.c3) hk;exact go _ (Wp.outK Mf.seen.conv (Wp.obind (avStr_str _) (Wp.ret ⟨rfl,rfl⟩)))
 ·refine yc (bne_t h0) ?_
  rw[if_neg h0,if_neg h0];exact Wp.ret ⟨rfl,rfl⟩
def isF(z:Int):Prop:=0≤z∧z<32
instance (z:Int):Decidable (isF z):=inferInstanceAs (Decidable (0≤z∧z<32))
theorem loose_a{z:Int}(K:At lo h db s B):world n (d+2) 21 [.ptr db 0,.int .i64 z] h=some (.ret (.int .i64 (if isF z then ((s.fs z.toNat).loose.length:Int) else 0)),h):=by
 apply Wp.eq;obtain⟨D,vs,K⟩:=K;rw[w_disk_Disk_Loose];unfold disk_Disk_Loose;refine Wp.outK (eqDisk db 0 h) (Wp.obind (avBool_bool _) (y8 fun j ej=>y7 rfl (Wp.callN (isFile_w z) (Wp.obind (avBool_bool _) (Wp.lett ?_)))))
 by_cases h0:0≤z∧z<32
 ·rw [decide_eq_true h0, if_pos (show isF z from h0), ej]
  obtain⟨f,rfl⟩:∃f:Nat,z=(f:Int):=⟨z.toNat,by omega⟩;have hf:f<32:=by omega
  have C:=K.cells f hf;have Mf:=K.mem f hf;have hlen:lenL (vs f 2)=some ((s.fs f).loose.length:Int):=(Mf.loose.rd (S:=[]) (fun _ _ h=>nomatch h)).1;rw[Int.toNat_natCast];exact y7 rfl (Wp.obind (nilC_ptr _ _) (Wp.obind (fldP_ptr _ _ _) (Wp.obind (idxF hf) (Wp.obind (fldP_ptr _ _ _) (Wp.obind (y5 K.row C.c4) (Wp.obind hlen (Wp.ret ⟨rfl,rfl⟩)))))))
 ·rw [decide_eq_false h0, if_neg (show ¬ isF z from h0), ej]
  exact yc rfl (Wp.ret ⟨rfl,rfl⟩)
end
theorem Legal_take:∀(l:List Chg) (x:Cont) (k:Nat),Legal x l→Legal x (l.take k)
 |_,_,0,_=>trivial
 |[],_,_+1,_=>trivial
 |_::l,_,k+1,h=>⟨h.1,Legal_take l _ k h.2⟩
theorem sumL_take:∀(l:List Chg) (k:Nat),sumL (l.take k)≤sumL l
 |_,0=>Nat.zero_le _
 |[],_+1=>Nat.le_refl _
 |c::l,k+1=>by
  have:=sumL_take l k;show c.s.length+sumL (l.take k)≤c.s.length+sumL l;omega
theorem sumL_at:∀(l:List Chg) (k:Nat) (hk:k<l.length),sumL (l.take k)+l[k].s.length≤sumL l
 |[],_,h=>absurd h (Nat.not_lt_zero _)
 |c::l,0,_=>by
  show 0+c.s.length≤c.s.length+sumL l;omega
 |c::l,k+1,h=>by
  have:=sumL_at l k (Nat.lt_of_succ_lt_succ h);show c.s.length+sumL (l.take k)+(l[k]'(Nat.lt_of_succ_lt_succ h)).s.length≤c.s.length+sumL l;omega
def keptN(x:FileS)(kept:Int):Nat:=min kept.toNat x.loose.length
def tornC(c:Chg)(torn:Int):Chg:=⟨0,c.s.take (min torn ((c.s.length:Int) - 1)).toNat,c.n⟩
def tears(c:Chg)(torn:Int):Prop:=0<torn∧c.k=0∧c.s≠[]
instance (c:Chg)(torn:Int):Decidable (tears c torn):=inferInstanceAs (Decidable (0<torn∧c.k=0∧c.s≠[]))
def crashC(x:FileS)(kept torn:Int):Cont:=
 match x.loose[keptN x kept]? with
 |some c=>if tears c torn then do1 (doL x.sure (x.loose.take (keptN x kept))) (tornC c torn) else doL x.sure (x.loose.take (keptN x kept))
 |none=>doL x.sure (x.loose.take (keptN x kept))
def crashF(x:FileS)(kept torn:Int):FileS:=⟨crashC x kept torn,crashC x kept torn,[]⟩
theorem crashC_len{x:FileS}{B:Nat}(kept torn:Int)(k:FileOk x B):(crashC x kept torn).u.length≤B:=by
 obtain⟨k1,k2,k3,k4⟩:=k;have h1:=doL_len (x.loose.take (keptN x kept)) x.sure;have h2:=sumL_take x.loose (keptN x kept);unfold crashC
 split
 ·rename_i c hc
  obtain⟨hk,rfl⟩:=List.getElem?_eq_some_iff.1 hc;have h3:=sumL_at x.loose _ hk
  split
  ·have h4 := do1_len (doL x.sure (x.loose.take (keptN x kept))) (tornC x.loose[keptN x kept] torn)
   have h5:(tornC x.loose[keptN x kept] torn).s.length≤x.loose[keptN x kept].s.length:=by
    show (x.loose[keptN x kept].s.take _).length≤_;rw[List.length_take];exact Nat.min_le_right _ _
   omega
  ·omega
 ·omega
theorem crashF_ok{x:FileS}{B:Nat}(kept torn:Int)(k:FileOk x B):FileOk (crashF x kept torn) B:=
 ⟨rfl,trivial,crashC_len kept torn k,Nat.zero_le _⟩
section
variable {h H H':AHeap}{db T o:Nat}{D:List AV}{v v1 v2:AV}{x y:Cont}{l:List Chg}
theorem DoAt.trans(K:DoAt h H db T o D v v1 x)(K2:DoAt H H' db T o ((D.set o (.bool x.th)).set (o+1) v1) v1 v2 y):DoAt h H' db T o D v v2 y:=by
 have hn:=K.tch.1;refine⟨?_,K2.buf,K2.ndb,fun b hb=>?_,K.tch.trans' K2.tch fun b hb=>?_,K2.ex⟩
 ·have := K2.row
  rw[set4] at this;exact this
 ·rcases K2.sub b hb with hb | hb
  ·exact K.sub b hb
  ·omega
 ·rcases List.mem_cons.1 hb with rfl | hb
  ·exact .inl List.mem_cons_self
  ·exact(K.sub b hb).imp (List.mem_cons_of_mem _) id
theorem sl3_to(h:AHeap){c m k:Nat}(hk:k≤m):sliceA Try.prog h TChgs (.sl c 0 m 3) none (some (.int .i64 (k:Int)))=some (.val (.sl c 0 k 3),h):=
 slice_to (P:=Try.prog) (e:=TChg) (k1:=.i64) (by kernel_rfl) (by kernel_rfl) (by kernel_rfl) hk
theorem LooseAt.take{S:List Nat}(k:LooseAt h v l)(hS:∀b∈blkV v,b ∉ S){j:Nat}(hj:j≤l.length):∃v',sliceA Try.prog h TChgs v none (some (.int .i64 (j:Int)))=some (.val v',h)∧RdL h S v' (l.take j):=by
 rcases k with⟨rfl,rfl⟩|⟨c,rfl,h2,h3⟩
 ·have hj0 : j = 0 := Nat.le_zero.1 hj
  subst hj0;exact⟨.nsl,by kernel_rfl,rfl,fun _ _ i hi=>absurd hi (Nat.not_lt_zero _)⟩
 ·have hl : (l.take j).length = j := by rw [List.length_take]; omega
  refine⟨.sl c 0 j 3,sl3_to h hj,by rw[hl];rfl,fun H t i hi=>⟨_,idx3 (by omega),?_⟩⟩;have k2:=h2.tch t h3 (hS c (List.mem_singleton.2 rfl));have:=chgs_ld (l:=l) (rest:=[]) (i:=i) (by rw[List.append_nil];exact k2) (by omega);rw[this,List.getElem_take]
end
section
variable {lo:Nat→Prop}{n d db:Nat}{h:AHeap}{D:List AV}{fs:Nat→FileS}{vs:Nat→Nat→AV}{p:Int}{ops B f:Nat}{s:DS}
theorem crash_do(hn:1000000<n)(K:DiskAt lo h db D fs vs p ops B)(hf:f<32)(hb:B<900000){kept torn:Int}(ht:torn<9223372036854775808){Q:ARes→AHeap→Prop}{call2:AHeap→R}(hk:∀H v,DoAt h H db TDisk (5*f+0) D (vs f 0) v (crashC (fs f) kept torn)→Wp (call2 H) Q):
  Wp (
 lett (if 0>kept then 0 else kept) fun (t8:Int)=>
 Abs.obind (nilC (.ptr db (5*f))) fun t10=>
 Abs.obind (fldP 4 t10) fun t11=>
 Abs.obind (ldCell h t11) fun v12=>
 Abs.obind (lenL v12) fun t13=>
 lett (if t13<t8 then t13 else t8) fun (t14:Int)=>
 Abs.obind (nilC (.ptr db (5*f))) fun t16=>
 Abs.obind (fldP 0 t16) fun t17=>
 Abs.obind (nilC (.ptr db (5*f))) fun t19=>
 Abs.obind (fldP 4 t19) fun t20=>
 Abs.obind (ldCell h t20) fun v21=>
 Abs.outK (sliceA Try.prog h TChgs v21 none (some (.int .i64 t14))) fun v23 h_14=>
 Abs.callN (world n (d+2) 37 [t17,v23] h_14) fun _ h_16=>
 Abs.obind (nilC (.ptr db (5*f))) fun t27=>
 Abs.obind (fldP 4 t27) fun t28=>
 Abs.obind (ldCell h_16 t28) fun v29=>
 Abs.obind (lenL v29) fun t30=>
 lett (decide (t14<t30)) fun (t31:Bool)=>
 lett (fun (t35:Bool) (h_25:AHeap)=>
  lett call2 fun k28=>
  ifB t35
  (
   Abs.obind (nilC (.ptr db (5*f))) fun t37=>
   Abs.obind (fldP 4 t37) fun t38=>
   Abs.obind (ldCell h_25 t38) fun v39=>
   Abs.obind (idxP 3 v39 t14) fun t41=>
   Abs.obind (ldRow h_25 3 t41) fun t42=>
   lett (newH h_25 TChg [.int .i64 0,.str 0 0,.int .i64 0]) fun h_50=>
   Abs.obind (stRow h_50 3 t42 (newP h_25)) fun h_52=>
   Abs.obind (ldCell h_52 (AV.ptr (AHeap.next h_25) 0)) fun v44=>
   Abs.obind (avInt .i64 v44) fun t44=>
   lett ((t44:Int) == 0) fun (t45:Bool)=>
   lett (fun (t50:Bool) (h_58:AHeap)=>
    lett (fun (h_62:AHeap)=>
     k28 h_62) fun k61=>
    ifB t50
    (
     Abs.obind (ldCell h_58 (AV.ptr (AHeap.next h_25) 1)) fun v52=>
     Abs.obind (avStr v52) fun t52=>
     Abs.obind (ldCell h_58 (AV.ptr (AHeap.next h_25) 1)) fun v55=>
     Abs.obind (avStr v55) fun t55=>
     lett (IntKind.i64.wrap ((lenS t55) - 1)) fun (t57:Int)=>
     lett (if t57<torn then t57 else torn) fun (t58:Int)=>
     Abs.obind (sliceS t52 0 t58) fun t59=>
     Abs.obind (stRow h_58 1 [strA t59] (AV.ptr (AHeap.next h_25) 1)) fun h_71=>
     Abs.obind (nilC (.ptr db (5*f))) fun t62=>
     Abs.obind (fldP 0 t62) fun t63=>
     Abs.obind (ldRow h_71 3 (newP h_25)) fun t64=>
     Abs.outK (bldSl Try.prog h_71 TChgs 1 [(0,.agg t64)]) fun v65 h_76=>
     Abs.callN (world n (d+2) 37 [t63,v65] h_76) fun _ h_78=>
     k61 h_78)
    (
     k61 h_58)) fun j50=>
   ifB t45
   (
    Abs.obind (ldCell h_52 (AV.ptr (AHeap.next h_25) 1)) fun v48=>
    Abs.obind (avStr v48) fun t48=>
    lett (!eqS t48 ([]:Bytes)) fun (t49:Bool)=>
    j50 t49 h_52)
   (
    j50 false h_52))
  (
   k28 h_25)) fun j35=>
 ifB t31
 (
  lett (decide (torn>0)) fun (t34:Bool)=>
  j35 t34 h_16)
 (
  j35 false h_16)) Q:=by
 have C:=K.cells f hf;have Mf:=K.mem f hf;obtain⟨o1,o2,o3,o4⟩:=K.ok f hf;have hlen:=K.len;have hdb:=K.hdb
 have dis:∀b∈blkV (vs f 2),b ∉ db::blkV (vs f 0):=fun b hb hm=>by
  rcases List.mem_cons.1 hm with rfl|hm
  ·exact K.nd hf (by decide) hb
  ·exact K.ne hf (by decide) hf (by decide) (fun h=>absurd h.2 (by decide)) b hb hm
 have hL:=(Mf.loose.rd dis).1;obtain⟨k,hkk⟩:∃k,k=keptN (fs f) kept:=⟨_,rfl⟩
 have hk14:(if ((fs f).loose.length:Int)<(if 0>kept then 0 else kept) then ((fs f).loose.length:Int) else (if 0>kept then 0 else kept))=(k:Int):=by
  rw[hkk];unfold keptN
  split<;>split at * <;>omega
 have hkl:k≤(fs f).loose.length:=by
  rw[hkk];exact Nat.min_le_right _ _
 refine Wp.lett (Wp.obind (nilC_ptr _ _) (Wp.obind (fldP_ptr _ _ _) (Wp.obind (y5 K.row C.c4) (Wp.obind hL ?_))));rw[hk14];refine Wp.lett (Wp.obind (nilC_ptr _ _) (Wp.obind (fldP_ptr _ _ _) (Wp.obind (nilC_ptr _ _) (Wp.obind (fldP_ptr _ _ _) (Wp.obind (y5 K.row C.c4) ?_)))));obtain⟨v',e1,rd1⟩:=Mf.loose.take dis hkl;refine Wp.outK e1 ?_;have hst:=sumL_take (fs f).loose k;obtain⟨h4,v4,e4,K4⟩:=do_ok (n:=n) (d:=d+1) (T:=TDisk) (o:=5*f+0) (x:=(fs f).sure) hn hdb K.row C.c0 C.c1 Mf.sure (K.nd hf (by decide)) K.ex rd1 (by rw[List.length_take];omega) (Legal_take _ _ k o2) (by omega);refine Wp.callN e4 ?_;have hdb4:db<h4.next:=Nat.lt_of_lt_of_le hdb K4.tch.1
 have g4:((D.set (5*f+0) (.bool (doL (fs f).sure ((fs f).loose.take k)).th)).set (5*f+0+1) v4)[5*f+4]? =some (vs f 2):=by
  rw[List.getElem?_set_ne (by omega),List.getElem?_set_ne (by omega)];exact C.c4
 refine Wp.obind (nilC_ptr _ _) (Wp.obind (fldP_ptr _ _ _) (Wp.obind (y5 K4.row g4) (Wp.obind hL (Wp.lett (y8 fun j35 e35=>?_)))))
 have hcc:crashC (fs f) kept torn=match (fs f).loose[k]? with
   |some c=>if tears c torn then do1 (doL (fs f).sure ((fs f).loose.take k)) (tornC c torn) else doL (fs f).sure ((fs f).loose.take k)
   |none=>doL (fs f).sure ((fs f).loose.take k):=by
  rw[hkk];rfl
 by_cases h1:k<(fs f).loose.length
 ·refine yc (by rw [decide_eq_true_eq]; omega) (Wp.lett ?_)
  rw[List.getElem?_eq_getElem h1] at hcc;obtain⟨c,hc⟩:∃c,c=(fs f).loose[k]:=⟨_,rfl⟩;rw[←hc] at hcc;have hcc:crashC (fs f) kept torn=if tears c torn then do1 (doL (fs f).sure ((fs f).loose.take k)) (tornC c torn) else doL (fs f).sure ((fs f).loose.take k):=hcc
  by_cases h2:0<torn
  ·rw [decide_eq_true (show torn > 0 from h2), e35]
   refine y8 fun k28 e28=>yc rfl ?_;obtain⟨pp,i5,r5⟩:=(Mf.loose.rd dis).2 h4 K4.tch k h1;rw[←hc] at r5;refine Wp.obind (nilC_ptr _ _) (Wp.obind (fldP_ptr _ _ _) (Wp.obind (y5 K4.row g4) (Wp.obind i5 (Wp.obind r5 (y11 (Mem.nil [] h4) fun h5 M5=>?_)))));rw[newP_eq];refine y1a M5 rfl rfl rfl fun h6 M6=>?_;have t6:=M6.tch;have hn6:=t6.1;refine y26 M6 (show (chgC c)[0]? =some (.int .i64 (c.k:Int)) from rfl) (Wp.obind (avInt_int _ _) (Wp.lett (y8 fun j50 e50=>?_)));have K6:DoAt h h6 db TDisk (5*f+0) D (vs f 0) v4 (doL (fs f).sure ((fs f).loose.take k)):=⟨K4.row.tch t6 hdb4 (fun h=>nomatch h),K4.buf.tch t6 (fun _ _ h=>nomatch h),K4.ndb,K4.sub,K4.tch.trans' t6 (fun b hb=>nomatch hb),by rw[t6.2.1,K4.ex]⟩
   have no:¬tears c torn→Wp (j50 false h6) Q:=by
    intro hno;rw[if_neg hno] at hcc;rw[e50];refine y8 fun k61 e61=>y7 rfl ?_;rw[e61,e28];exact hk h6 v4 (by rw[hcc];exact K6)
   by_cases h3:c.k=0
   ·refine yc (beq_t (by omega)) (y26 M6 (show (chgC c)[1]? = some (strA c.s) from rfl) (Wp.obind (avStr_str _) (Wp.lett ?_)))
    by_cases h4s:c.s=[]
    ·rw [eqS_true.2 h4s]
     exact no (fun h=>h.2.2 h4s)
    ·rw [eqS_false.2 h4s, e50]
     have hy:tears c torn:=⟨h2,h3,h4s⟩;rw[if_pos hy] at hcc;have hsl:0<c.s.length:=List.length_pos_iff.2 h4s
     have hcs:c.s.length≤B:=by
      have:=sumL_at (fs f).loose k h1;rw[←hc] at this;omega
     have hll:=lenS_nat c.s;refine y8 fun k61 e61=>yc rfl (y26 M6 (show (chgC c)[1]? =some (strA c.s) from rfl) (Wp.obind (avStr_str _) (y26 M6 (show (chgC c)[1]? =some (strA c.s) from rfl) (Wp.obind (avStr_str _) (ye (by omega) (by omega) ?_)))))
     have hmin:(if lenS c.s - 1<torn then lenS c.s - 1 else torn)=min torn ((c.s.length:Int) - 1):=by
      split<;>omega
     rw[hmin];have hs0:=sliceS_int (l:=c.s) (a:=0) (b:=min torn ((c.s.length:Int) - 1)) (by omega) (by omega) (by omega)
     have hs1:(c.s.drop (0:Int).toNat).take ((min torn ((c.s.length:Int) - 1)).toNat - (0:Int).toNat)=(tornC c torn).s:=by
      rw[show (0:Int).toNat=0 from rfl,List.drop_zero,Nat.sub_zero];rfl
     rw[hs1] at hs0;refine Wp.lett (Wp.obind hs0 (Wp.ms0 M6 (by show 1<3;decide) rfl fun h7 M7=>Wp.obind (nilC_ptr _ _) (Wp.obind (fldP_ptr _ _ _) (y32 M7 rfl ?_))))
     have hset:(chgC c).set 1 (strA (tornC c torn).s)=chgC (tornC c torn):=by
      show [AV.int .i64 (c.k:Int),strA (tornC c torn).s,.int .i64 c.n]=[AV.int .i64 ((0:Nat):Int),strA (tornC c torn).s,.int .i64 c.n];rw[h3]
     rw[hset] at M7 ⊢;have hx7:h7.ex=[]:=by rw[M7.tch.2.1,K4.ex]
     refine y31 M7 (bldSlChg _ _ _ _) rfl (by rw[K4.ex];rfl) fun h8 M8=>?_;have t7:=M7.tch;have t8:=M8.tch;have K8:DoAt h h8 db TDisk (5*f+0) D (vs f 0) v4 (doL (fs f).sure ((fs f).loose.take k)):=⟨K4.row.tch t8 hdb4 (fun h=>nomatch h),K4.buf.tch t8 (fun _ _ h=>nomatch h),K4.ndb,K4.sub,K4.tch.trans' t8 (fun b hb=>nomatch hb),by rw[t8.2.1,K4.ex]⟩;have hn7:=t7.1;have hh8:=M8.at0.2.1
     have rd:RdL h8 (db::blkV v4) (.sl h7.next 0 1 3) [tornC c torn]:=by
      refine⟨rfl,fun HH t i hi=>?_⟩
      have hi0:i=0:=by
       have:i<1:=hi;omega
      subst hi0;refine⟨_,idx3 (by decide),(RowH.ldAll (M8.at0.1.tch t hh8 fun hm=>?_) rfl)⟩
      rcases List.mem_cons.1 hm with hm|hm
      ·omega
      ·have := K4.buf.lt _ hm
       omega
     have gl:5*f+0+1<((D.set (5*f+0) (.bool (doL (fs f).sure ((fs f).loose.take k)).th)).set (5*f+0+1) v4).length:=by
      rw[List.length_set,List.length_set];omega
     have hdl:=doL_len ((fs f).loose.take k) (fs f).sure;have hat:=sumL_at (fs f).loose k h1;rw[←hc] at hat
     have htl:(tornC c torn).s.length≤c.s.length:=by
      show (c.s.take _).length≤_;rw[List.length_take];exact Nat.min_le_right _ _
     obtain⟨h9,v9,e9,K9⟩:=do_ok (n:=n) (d:=d+1) (T:=TDisk) (o:=5*f+0) (D:=((D.set (5*f+0) (.bool (doL (fs f).sure ((fs f).loose.take k)).th)).set (5*f+0+1) v4)) (x:=doL (fs f).sure ((fs f).loose.take k)) hn (Nat.lt_of_lt_of_le hdb4 t8.1) K8.row (by rw[List.getElem?_set_ne (by omega),List.getElem?_set_self (by omega)]) (by rw[List.getElem?_set_self (by rw[List.length_set];omega)]) K8.buf K8.ndb K8.ex rd (by show 1<1000000;decide) ⟨.inl rfl,trivial⟩ (by show _+((tornC c torn).s.length+0)≤_;omega);refine Wp.callN e9 ?_;rw[e61,e28];exact hk h9 v9 (by rw[hcc];exact K8.trans K9)
   ·exact y7 (beq_f (by omega)) (no (fun h=>h3 h.2.1))
  ·rw [decide_eq_false (show ¬ torn > 0 from h2), e35]
   rw[if_neg (fun h=>h2 h.1)] at hcc;refine y8 fun k28 e28=>y7 rfl ?_;rw[e28];exact hk h4 v4 (by rw[hcc];exact K4)
 ·rw [List.getElem?_eq_none (by omega)] at hcc
  refine y7 (by rw[decide_eq_false_iff_not];omega) ?_;rw[e35];refine y8 fun k28 e28=>y7 rfl ?_;rw[e28];exact hk h4 v4 (by rw[hcc];exact K4)
end
section
variable {lo:Nat→Prop}{n d db:Nat}{h:AHeap}{D:List AV}{fs:Nat→FileS}{vs:Nat→Nat→AV}{p:Int}{ops B f:Nat}{s:DS}
theorem fcrash_ok(hn:1000000<n)(K:DiskAt lo h db D fs vs p ops B)(hf:f<32)(hb:B<900000){kept torn:Int}(ht:torn<9223372036854775808):
  ∃h' D' vs' S,world n (d+3) 30 [.ptr db (5*f),.int .i64 kept,.int .i64 torn] h=some (.ret (.tup []),h')∧DiskAt lo h' db D' (upd fs f (crashF (fs f) kept torn)) vs' p ops B∧Tch S h h'∧∀b∈S,lo b:=by
 suffices hK:Wp (world n (d+3) 30 [.ptr db (5*f),.int .i64 kept,.int .i64 torn] h) fun r h'=>r=.ret (.tup [])∧∃D' vs' S,DiskAt lo h' db D' (upd fs f (crashF (fs f) kept torn)) vs' p ops B∧Tch S h h'∧∀b∈S,lo b by
  obtain⟨_,h',e,rfl,D',vs',S,k⟩:=hK;exact⟨h',D',vs',S,e,k⟩
 rw[w_disk_file_crash];unfold disk_file_crash;refine crash_do hn K hf hb ht (fun H v K4=>?_);have C:=K.cells f hf;have Mf:=K.mem f hf;have hlen:=K.len;have hdb:=K.hdb;have hcl:=crashC_len kept torn (K.ok f hf);have hdb4:db<H.next:=Nat.lt_of_lt_of_le hdb K4.tch.1
 have g0:((D.set (5*f+0) (.bool (crashC (fs f) kept torn).th)).set (5*f+0+1) v)[5*f+0]? =some (.bool (crashC (fs f) kept torn).th):=by
  rw[List.getElem?_set_ne (by omega),List.getElem?_set_self (by omega)]
 have g1:((D.set (5*f+0) (.bool (crashC (fs f) kept torn).th)).set (5*f+0+1) v)[5*f+0+1]? =some v:=by
  rw[List.getElem?_set_self (by rw[List.length_set];omega)]
 obtain⟨h5,v5,e5,k5,t5,s5⟩:=copy_ok (n:=n) (d:=d) K4.row hdb4 g0 g1 K4.buf K4.ex (by omega);refine Wp.obind (nilC_ptr _ _) (Wp.obind (fldP_ptr _ _ _) (Wp.callN e5 (Wp.obind (avAgg_agg _) (Wp.obind (nilC_ptr _ _) (Wp.obind (fldP_ptr _ _ _) ?_)))));have hn5:=t5.1;have kr5:=K4.row.tch t5 hdb4 (fun h=>nomatch h);have hl4:((D.set (5*f+0) (.bool (crashC (fs f) kept torn).th)).set (5*f+0+1) v).length=162:=by rw[List.length_set,List.length_set];exact hlen
 refine y43 kr5 (rfl:([.bool (crashC (fs f) kept torn).th,v5]:List AV).length=2) (show 5*f+2+2≤_ by omega) (by rw[show [AV.bool (crashC (fs f) kept torn).th,v5].all AV.one=(true&&(v5.one&&true)) from rfl,k5.one.1];rfl) fun h6 k6 t6 n6=>?_;rw[laid2 (show 5*f+2+1<_ by omega)] at k6;refine Wp.obind (nilC_ptr _ _) (Wp.obind (fldP_ptr _ _ _) ?_);show Wp (Abs.obind (stRow h6 1 [AV.nsl] (.ptr db (5*f+4))) _) _;refine Wp.st1 k6 (show 5*f+4<_ by rw[List.length_set,List.length_set];omega) rfl fun h7 k7 t7 n7=>?_;have hn4:=K4.tch.1;have td:∀b∈[db],b∈db::blkV (vs f 0)∨h.next≤b:=fun b hb=>.inl (by rw[List.mem_singleton.1 hb];exact List.mem_cons_self);have T:Tch (db::blkV (vs f 0)) h h7:=(((K4.tch.trans' t5 fun b hb=>nomatch hb).trans' t6 td).trans' t7 td)
 have nd5:db ∉ blkV v5:=fun hb=>by
  have:=s5 _ hb;omega
 have KU:=K.upd (B':=B) (x:=crashF (fs f) kept torn) (w:=fun k=>if k=0 then v else if k=1 then v5 else .nsl) hf T (fun b hb=>?_) k7 (by rw[List.length_set,List.length_set,List.length_set];exact hl4) ⟨?_,?_,?_,?_,?_⟩ (fun i hi=>?_) (fun k hk b hb=>?_) (fun k l hk hl hne b hb hb'=>?_) ⟨?_,?_,?_⟩ (crashF_ok kept torn (K.ok f hf)) (Nat.le_refl _)
 ·refine Wp.ret ⟨rfl, _, _, db :: blkV (vs f 0), KU, T, fun b hb => ?_⟩
  rcases List.mem_cons.1 hb with hb|hb
  ·rw [hb]
   exact K.hlo
  ·exact K.low f 0 hf (by decide) b hb
 ·rcases List.mem_cons.1 hb with hb | hb
  ·exact .inl hb
  ·exact .inr ⟨0,by decide,hb⟩
 ·rw [List.getElem?_set_ne (by omega), List.getElem?_set_ne (by omega), List.getElem?_set_ne (by omega)]
  exact g0
 ·rw [List.getElem?_set_ne (by omega), List.getElem?_set_ne (by omega), List.getElem?_set_ne (by omega)]
  exact g1
 ·rw [List.getElem?_set_ne (by omega), List.getElem?_set_ne (by omega), List.getElem?_set_self (by omega)]
  rfl
 ·rw [List.getElem?_set_ne (by omega), List.getElem?_set_self (by rw [List.length_set]; omega)]
  rfl
 ·rw [List.getElem?_set_self (by rw [List.length_set, List.length_set]; omega)]
  rfl
 ·rw[List.getElem?_set_ne (by omega),List.getElem?_set_ne (by omega),List.getElem?_set_ne (by omega),List.getElem?_set_ne (by omega),List.getElem?_set_ne (by omega)]
 ·rcases k with _ | _ | k
  ·exact K4.sub b hb
  ·right
   have:=s5 b hb;omega
  ·exact nomatch hb
 ·have q01 : b ∈ blkV v → b ∈ blkV v5 → False := fun h0 h1 => by
   have h2:=s5 b h1;have h3:=K4.buf.lt b h0;omega
  rcases k with _|_|k<;>rcases l with _|_|l
  ·omega
  ·exact q01 hb hb'
  ·exact nomatch hb'
  ·exact q01 hb' hb
  ·omega
  ·exact nomatch hb'
  ·exact nomatch hb
  ·exact nomatch hb
  ·exact nomatch hb
 ·have k1 := K4.buf.tch t5 (fun _ _ h => nomatch h)
  have k2:=k1.tch t6 fun b hb hm=>K4.ndb (List.mem_singleton.1 hm▸hb);exact k2.tch t7 fun b hb hm=>K4.ndb (List.mem_singleton.1 hm▸hb)
 ·have k2 := k5.tch t6 fun b hb hm => nd5 (List.mem_singleton.1 hm ▸ hb)
  exact k2.tch t7 fun b hb hm=>nd5 (List.mem_singleton.1 hm▸hb)
 ·exact .inl ⟨rfl,rfl⟩
def RdI(lo:Nat→Prop)(h:AHeap)(lv:AV)(zs:List Int):Prop:=lenL lv=some (zs.length:Int)∧∀S H,Tch S h H→(∀b∈S,lo b)→∀(i:Nat) (hi:i<zs.length),∃p,idxP 1 lv (i:Int)=some p∧ldCell H p=some (.int .i64 zs[i])
theorem RdI.tch{S:List Nat}{h h':AHeap}{lv:AV}{zs:List Int}(k:RdI lo h lv zs)(t:Tch S h h')(hS:∀b∈S,lo b):RdI lo h' lv zs:=
 ⟨k.1,fun S' H t' hS' i hi=>k.2 (S++S') H ((t.mono fun _ hb=>.inl (List.mem_append_left _ hb)).trans (t'.mono fun _ hb=>.inl (List.mem_append_right _ hb))) (fun b hb=>(List.mem_append.1 hb).elim (hS b) (hS' b)) i hi⟩
def keepAt(zs:List Int)(f:Nat):Int:=zs.getD f 0
def crashD(s:DS)(zs:List Int)(torn:Int):DS:=⟨fun f=>if f<32 then crashF (s.fs f) (keepAt zs f) torn else s.fs f, -1,s.ops⟩
theorem crash_loop(hn:1000000<n)(hb:B<900000){torn:Int}(ht:torn<9223372036854775808){lv:AV}{zs:List Int}(hz:zs.length<9223372036854775808){k11:AHeap→R}{Q:ARes→AHeap→Prop}(hk:∀S H,At lo H db ⟨fun f=>if f<32 then crashF (s.fs f) (keepAt zs f) torn else s.fs f,s.p,s.ops⟩ B→Tch S h H→(∀b∈S,lo b)→Wp (k11 H) Q):
  ∀(r i fu:Nat) (H:AHeap) (S:List Nat),r+i=32→r<fu→At lo H db ⟨fun f=>if f<i then crashF (s.fs f) (keepAt zs f) torn else s.fs f,s.p,s.ops⟩ B→Tch S h H→(∀b∈S,lo b)→RdI lo H lv zs→
   Wp (disk_Disk_Crash_L0 (world n (d+3)) (.ptr db 0) lv torn k11 fu (i:Int) H) Q
 |_,_,0,_,_,_,hf,_,_,_,_=>by omega
 |0,i,fu+1,H,S,hi,hf,K,t,hS,rd=>by
  obtain rfl:i=32:=by omega
  rw[disk_Disk_Crash_L0_s];unfold disk_Disk_Crash_L0b;exact Wp.lett (y7 rfl (hk S H K t hS))
 |r+1,i,fu+1,H,S,hi,hf,K,t,hS,rd=>by
  obtain⟨D,vs,K⟩:=K;have hi32:i<32:=by omega
  rw[disk_Disk_Crash_L0_s];unfold disk_Disk_Crash_L0b;refine Wp.lett (yc (by rw[decide_eq_true_eq];omega) (Wp.obind rd.1 (Wp.lett (y8 fun k32 e32=>?_))))
  have next:∀z:Int,z=keepAt zs i→Wp (k32 z H) Q:=by
   intro z hzk;rw[e32,hzk];refine Wp.obind (nilC_ptr _ _) (Wp.obind (fldP_ptr _ _ _) (Wp.obind (idxF hi32) ?_));obtain⟨h2,D2,vs2,S2,e2,K2,t2,hS2⟩:=fcrash_ok (n:=n) (d:=d) hn K hi32 hb (kept:=keepAt zs i) ht;refine Wp.callN e2 (ye (by omega) (by omega) ?_);rw[show (i:Int)+1=((i+1:Nat):Int) by omega];refine crash_loop hn hb ht hz hk r (i+1) fu h2 (S++S2) (by omega) (by omega) ⟨D2,vs2,?_⟩ ((t.mono fun _ hb=>.inl (List.mem_append_left _ hb)).trans (t2.mono fun _ hb=>.inl (List.mem_append_right _ hb))) (fun b hb=>(List.mem_append.1 hb).elim (hS b) (hS2 b)) (rd.tch t2 hS2)
   have ef:upd (fun f=>if f<i then crashF (s.fs f) (keepAt zs f) torn else s.fs f) i (crashF ((fun f=>if f<i then crashF (s.fs f) (keepAt zs f) torn else s.fs f) i) (keepAt zs i) torn)=fun f=>if f<i+1 then crashF (s.fs f) (keepAt zs f) torn else s.fs f:=by
    funext j
    unfold Go.Proofs.Ytfcedccphhmdgaa.upd;dsimp only
    by_cases e:j=i
    ·subst e
     rw[if_pos rfl,if_neg (Nat.lt_irrefl _),if_pos (Nat.lt_succ_self _)]
    ·rw [if_neg e]
     by_cases e2:j<i
     ·rw[if_pos e2,if_pos (by omega)]
     ·rw[if_neg e2,if_neg (by omega)]
   rw[←ef];exact K2
  by_cases h1:i<zs.length
  ·obtain ⟨pp, q1, q2⟩ := rd.2 [] H (Tch.refl _ _) (fun _ h => nomatch h) i h1
   refine yc (by rw[decide_eq_true_eq];omega) (Wp.obind q1 (Wp.obind q2 (Wp.obind (avInt_int _ _) (next _ ?_))));unfold keepAt;rw[List.getD_eq_getElem?_getD,List.getElem?_eq_getElem h1];rfl
  ·refine y7 (by rw [decide_eq_false_iff_not]; omega) (next _ ?_)
   unfold keepAt;rw[List.getD_eq_getElem?_getD,List.getElem?_eq_none (by omega)];rfl
theorem crash_ok(hn:1000000<n)(hb:B<900000){torn:Int}(ht:torn<9223372036854775808){lv:AV}{zs:List Int}(hz:zs.length<9223372036854775808)(K:At lo h db s B)(rd:RdI lo h lv zs):
  Does lo db h (world n (d+4) 14 [.ptr db 0,lv,.int .i64 torn] h) 0 (crashD s zs torn) B:=by
 apply Does.of;rw[w_disk_Disk_Crash];unfold disk_Disk_Crash;refine Wp.outK (eqDisk db 0 h) (Wp.obind (avBool_bool _) (y7 rfl (y8 fun k11 e11=>crash_loop (s:=s) hn hb ht hz (fun S H K' t hS=>?_) 32 0 n h [] rfl (by omega) ?_ (Tch.refl _ _) (fun _ h=>nomatch h) rd)))
 ·obtain ⟨D, vs, K'⟩ := K'
  have hl:=K'.len;rw[e11];refine Wp.obind (nilC_ptr _ _) (Wp.obind (fldP_ptr _ _ _) (Wp.st1 K'.row (show 0+160<D.length by omega) rfl fun h2 k2 t2 n2=>?_));rw[Nat.zero_add] at k2;refine Wp.ret ⟨rfl,db::S,⟨_,vs,K'.setP (p':= -1) ⟨Int.le_refl _,by decide⟩ k2 t2⟩,(t.mono fun _ hb=>.inl (List.mem_cons_of_mem _ hb)).trans' t2 fun b hb=>.inl (by rw[List.mem_singleton.1 hb];exact List.mem_cons_self),fun b hb=>?_⟩
  rcases List.mem_cons.1 hb with hb|hb
  ·rw [hb]
   exact K'.hlo
  ·exact hS b hb
 ·have e : (fun f => if f < 0 then crashF (s.fs f) (keepAt zs f) torn else s.fs f) = s.fs := by
   funext j
   rw[if_neg (Nat.not_lt_zero _)]
  rw[e];exact K
end
structure Snd where
 k:Int
 t:Int
 e:Int
 q:Int
 s:Bytes
deriving DecidableEq
noncomputable def sndC(x:Snd):List AV:=[.int .i64 x.k,.int .i64 x.t,.int .i64 x.e,.int .i64 x.q,strA x.s]
def z0:Snd:=⟨0,0,0,0,[]⟩
def numOk(v m:Int):Prop:=1≤v∧v≤m
instance (v m:Int):Decidable (numOk v m):=inferInstanceAs (Decidable (_∧_))
def numsOk(x:Snd):Prop:=numOk x.k 1048576∧numOk x.t 1099511627776∧numOk x.e 1048576∧numOk x.q 1048576
instance (x:Snd):Decidable (numsOk x):=inferInstanceAs (Decidable (_∧_))
def checkJ(x:Snd):Int:=if numsOk x then (if x.s.length>64 then 3 else 0) else 2
theorem checkJ_ok{x:Snd}(h:checkJ x=0):numsOk x∧x.s.length≤64:=by
 unfold checkJ at h
 split at h
 ·rename_i h1
  split at h
  ·cases h
  ·exact⟨h1,by omega⟩
 ·cases h
def sndB(x:Snd):Bytes:=numB 8 x.k.toNat++numB 8 x.t.toNat++numB 8 x.e.toNat++numB 8 x.q.toNat++textB x.s
def cap(n:Nat):Int:=if 1099511627777<(n:Int) then 1099511627777 else (n:Int)
def rd1(p:Bytes):Nat×RS:=rNum p 8 ⟨0,0,0⟩
def rd2(p:Bytes):Nat×RS:=rNum p 8 (rd1 p).2
def rd3(p:Bytes):Nat×RS:=rNum p 8 (rd2 p).2
def rd4(p:Bytes):Nat×RS:=rNum p 8 (rd3 p).2
def rdT(p:Bytes):Bytes×RS:=rText p 64 (rd4 p).2
def rdX(p:Bytes):Snd:=⟨cap (rd1 p).1,cap (rd2 p).1,cap (rd3 p).1,cap (rd4 p).1,(rdT p).1⟩
def rdS(p:Bytes):Option Snd:=if (rEnd p (rdT p).2).1=0∧checkJ (rdX p)=0 then some (rdX p) else none
theorem rdS_ok{p:Bytes}{x:Snd}(h:rdS p=some x):checkJ x=0∧x=rdX p:=by
 unfold rdS at h
 split at h
 ·rename_i hc
  cases h;exact⟨hc.2,rfl⟩
 ·cases h
theorem rNum_at{s:Bytes}{w p:Nat}{q:Int}(h:p+w≤s.length):rNum s w ⟨p,0,q⟩=(valB ((s.drop p).take w),⟨p+w,0,q⟩):=by
 unfold rNum;rw[if_neg (by simp),if_neg (by show ¬s.length<p+w;omega)]
theorem take_at{P A M C:Bytes}{p w:Nat}(h:P=A++(M++C))(ha:A.length=p)(hm:M.length=w):(P.drop p).take w=M:=by
 rw[h,List.drop_left' ha,List.take_left' hm]
theorem sndB_len(x:Snd):(sndB x).length=36+x.s.length:=by
 unfold sndB textB;simp only[List.length_append,numB_length];omega
theorem rdS_snd{x:Snd}(h:checkJ x=0):rdS (sndB x)=some x:=by
 obtain⟨⟨h1,h2,h3,h4⟩,h5⟩:=checkJ_ok h;unfold numOk at h1 h2 h3 h4;have hp8:256 ^ 8=18446744073709551616:=rfl;have l8:∀v:Nat,(numB 8 v).length=8:=fun v=>numB_length 8 v;have l4:∀v:Nat,(numB 4 v).length=4:=fun v=>numB_length 4 v;have hl:=sndB_len x;have v8:∀v:Int,0≤v→v≤1099511627776→valB (numB 8 v.toNat)=v.toNat:=fun v _ _=>numB_val 8 _ (by omega)
 have e1:rd1 (sndB x)=(x.k.toNat,⟨8,0,0⟩):=by
  unfold rd1;rw[rNum_at (by omega),take_at (P:=sndB x) (p:=0) (A:=[]) (M:=numB 8 x.k.toNat) (C:=numB 8 x.t.toNat++(numB 8 x.e.toNat++(numB 8 x.q.toNat++textB x.s))) (by unfold sndB;simp only[List.append_assoc,List.nil_append]) rfl (l8 _),v8 _ (by omega) (by omega)]
 have e2:rd2 (sndB x)=(x.t.toNat,⟨16,0,0⟩):=by
  unfold rd2;rw[e1,rNum_at (by omega),take_at (A:=numB 8 x.k.toNat) (M:=numB 8 x.t.toNat) (C:=numB 8 x.e.toNat++(numB 8 x.q.toNat++textB x.s)) (by unfold sndB;simp only[List.append_assoc]) (l8 _) (l8 _),v8 _ (by omega) (by omega)]
 have e3:rd3 (sndB x)=(x.e.toNat,⟨24,0,0⟩):=by
  unfold rd3;rw[e2,rNum_at (by omega),take_at (A:=numB 8 x.k.toNat++numB 8 x.t.toNat) (M:=numB 8 x.e.toNat) (C:=numB 8 x.q.toNat++textB x.s) (by unfold sndB;simp only[List.append_assoc]) (by rw[List.length_append,l8,l8]) (l8 _),v8 _ (by omega) (by omega)]
 have e4:rd4 (sndB x)=(x.q.toNat,⟨32,0,0⟩):=by
  unfold rd4;rw[e3,rNum_at (by omega),take_at (A:=numB 8 x.k.toNat++numB 8 x.t.toNat++numB 8 x.e.toNat) (M:=numB 8 x.q.toNat) (C:=textB x.s) (by unfold sndB;simp only[List.append_assoc]) (by rw[List.length_append,List.length_append,l8,l8,l8]) (l8 _),v8 _ (by omega) (by omega)]
 have e5:rNum (sndB x) 4 ⟨32,0,0⟩=(x.s.length,⟨36,0,0⟩):=by
  rw[rNum_at (by omega),take_at (A:=numB 8 x.k.toNat++numB 8 x.t.toNat++numB 8 x.e.toNat++numB 8 x.q.toNat) (M:=numB 4 x.s.length) (C:=x.s) (by unfold sndB textB;simp only[List.append_assoc]) (by simp only[List.length_append,l8]) (l4 _),numB_val 4 _ (by have:256 ^ 4=4294967296:=rfl;omega)]
 have e6:rdT (sndB x)=(x.s,⟨36+x.s.length,0,0⟩):=by
  unfold rdT rText;rw[e4];show (if (rNum (sndB x) 4 ⟨32,0,0⟩).2.e≠0 then _ else _)=_;rw[e5,if_neg (by simp),if_neg (by show ¬64<x.s.length;omega),if_neg (by show ¬(sndB x).length <36+x.s.length;omega)];show (((sndB x).drop 36).take x.s.length,_)=_;rw[take_at (A:=numB 8 x.k.toNat++numB 8 x.t.toNat++numB 8 x.e.toNat++numB 8 x.q.toNat++numB 4 x.s.length) (M:=x.s) (C:=[]) (by unfold sndB textB;simp only[List.append_assoc,List.append_nil]) (by simp only[List.length_append,l8,l4]) rfl]
 have cp:∀v:Int,0≤v→v≤1099511627776→cap v.toNat=v:=fun v _ _=>by
  unfold cap;rw[if_neg (by omega)];omega
 have hx:rdX (sndB x)=x:=by
  unfold rdX;rw[e1,e2,e3,e4,e6];show (⟨cap x.k.toNat,cap x.t.toNat,cap x.e.toNat,cap x.q.toNat,x.s⟩:Snd)=x;rw[cp _ (by omega) (by omega),cp _ (by omega) (by omega),cp _ (by omega) (by omega),cp _ (by omega) (by omega)]
 unfold rdS;rw[hx,e6,if_pos];refine⟨?_,h⟩;unfold rEnd
 rw[if_neg (fun hh=>by
  have:36+x.s.length<(sndB x).length:=hh.2;omega)]
def lastL(L:List Snd)(k:Int):Option Snd:=L.foldl (fun o x=>if x.k=k then some x else o) none
theorem lastL_snoc(L:List Snd)(x:Snd)(k:Int):lastL (L++[x]) k=if x.k=k then some x else lastL L k:=by
 unfold lastL;rw[List.foldl_append];rfl
def aboveJ(a b c d:Int):Bool:=if a≠c then decide (a>c) else decide (b>d)
def lastZ(L:List Snd)(k:Int):Snd:=(lastL L k).getD z0
def refJ(L:List Snd)(x:Snd):Int:=if aboveJ (lastZ L x.k).t (lastZ L x.k).e x.t x.e=true then 220 else if x.q≠(lastZ L x.k).q+1 then 221 else 0
theorem lastL_mem:∀(L:List Snd) (k:Int) (o:Option Snd) (x:Snd),L.foldl (fun o x=>if x.k=k then some x else o) o=some x→x∈L∨o=some x
 |[],_,_,_,h=>.inr h
 |y::L,k,o,x,h=>by
  rcases lastL_mem L k _ x h with h|h
  ·exact .inl (List.mem_cons_of_mem _ h)
  ·have h : (if y.k = k then some y else o) = some x := h
   split at h
   ·cases h
    exact .inl (List.mem_cons_self ..)
   ·exact .inr h
def readG(f:List Snd→Bytes→Option Snd):List Snd→List Bytes→List Snd
 |L,[]=>L
 |L,p::ps=>match f L p with
  |some x=>readG f (L++[x]) ps
  |none=>L
def goodG(f:List Snd→Bytes→Option Snd):List Snd→List Bytes→Nat
 |_,[]=>0
 |L,p::ps=>match f L p with
  |some x=>p.length+12+goodG f (L++[x]) ps
  |none=>0
theorem readG_some{f:List Snd→Bytes→Option Snd}{p:Bytes}{x:Snd}{L:List Snd}{ps:List Bytes}(h:f L p=some x):readG f L (p::ps)=readG f (L++[x]) ps∧goodG f L (p::ps)=p.length+12+goodG f (L++[x]) ps:=by
 rw[readG,goodG,h];exact⟨rfl,rfl⟩
theorem readG_none{f:List Snd→Bytes→Option Snd}{p:Bytes}{L:List Snd}{ps:List Bytes}(h:f L p=none):readG f L (p::ps)=L∧goodG f L (p::ps)=0:=by
 rw[readG,goodG,h];exact⟨rfl,rfl⟩
def stepJ(L:List Snd)(p:Bytes):Option Snd:=(rdS p).bind fun x=>if refJ L x=0 then some x else none
def readJ(L:List Snd)(ps:List Bytes):List Snd:=readG stepJ L ps
def goodJ(L:List Snd)(ps:List Bytes):Nat:=goodG stepJ L ps
theorem readJ_some{p:Bytes}{x:Snd}{L:List Snd}{ps:List Bytes}(h:rdS p=some x)(hr:refJ L x=0):readJ L (p::ps)=readJ (L++[x]) ps∧goodJ L (p::ps)=p.length+12+goodJ (L++[x]) ps:=
 readG_some (f:=stepJ) (by unfold stepJ;rw[h,Option.bind_some,if_pos hr])
theorem readJ_bad{p:Bytes}{L:List Snd}{ps:List Bytes}(h:∀x,rdS p=some x→refJ L x≠0):readJ L (p::ps)=L∧goodJ L (p::ps)=0:=
 readG_none (f:=stepJ) (by
  unfold stepJ;cases hr:rdS p with
  |none=>exact Option.bind_none _
  |some x=>rw[Option.bind_some,if_neg (h x hr)])
def OkJ:List Snd→List Snd→Prop
 |_,[]=>True
 |L,x::k=>checkJ x=0∧refJ L x=0∧OkJ (L++[x]) k
theorem OkJ_snoc:∀(k L:List Snd) (x:Snd),OkJ L k→checkJ x=0→refJ (L++k) x=0→OkJ L (k++[x])
 |[],L,x,_,h1,h2=>⟨h1,by rw[List.append_nil] at h2;exact h2,trivial⟩
 |y::k,L,x,h,h1,h2=>⟨h.1,h.2.1,OkJ_snoc k (L++[y]) x h.2.2 h1 (by rw[List.append_assoc];exact h2)⟩
theorem OkJ_at:∀(k L:List Snd),OkJ L k→∀(i:Nat) (hi:i<k.length),checkJ k[i]=0∧refJ (L++k.take i) k[i]=0
 |y::k,L,h,0,_=>⟨h.1,by rw[List.take_zero,List.append_nil];exact h.2.1⟩
 |y::k,L,h,i+1,hi=>by
  obtain⟨h1,h2⟩:=OkJ_at k (L++[y]) h.2.2 i (by simpa using hi);refine⟨h1,?_⟩;rw[List.append_assoc] at h2;exact h2
theorem readJ_app:∀(k L:List Snd) (ps:List Bytes),OkJ L k→readJ L (k.map sndB++ps)=readJ (L++k) ps
 |[],L,ps,_=>by rw[List.append_nil,List.map_nil,List.nil_append]
 |x::k,L,ps,h=>by
  rw[List.map_cons,List.cons_append,(readJ_some (rdS_snd h.1) h.2.1).1,readJ_app k (L++[x]) ps h.2.2,List.append_assoc];rfl
def journB(L:List Snd):Bytes:=(L.map fun x=>frameB (sndB x)).flatten
theorem journB_cons(x:Snd)(L:List Snd):journB (x::L)=frameB (sndB x)++journB L:=rfl
theorem journB_app(a b:List Snd):journB (a++b)=journB a++journB b:=by
 unfold journB;rw[List.map_append,List.flatten_append]
theorem journB_one(x:Snd):journB [x]=frameB (sndB x):=List.append_nil _
theorem goodJ_app:∀(k L:List Snd) (ps:List Bytes),OkJ L k→goodJ L (k.map sndB++ps)=(journB k).length+goodJ (L++k) ps
 |[],L,ps,_=>by rw[List.append_nil,List.map_nil,List.nil_append];exact(Nat.zero_add _).symm
 |x::k,L,ps,h=>by
  rw[List.map_cons,List.cons_append,(readJ_some (rdS_snd h.1) h.2.1).2,goodJ_app k (L++[x]) ps h.2.2,List.append_assoc,journB_cons,List.length_append,frameB_length];show _=(sndB x).length+12+(journB k).length+goodJ (L++([x]++k)) ps;omega
theorem takeR_nil:(takeR []).2.2≠0:=by decide
theorem scan_journ{t:Bytes}:∀L:List Snd,(∀x∈L,x.s.length≤64)→(scanR (journB L++t)).1=L.map sndB++(scanR t).1
 |[],_=>rfl
 |x::L,h=>by
  have hx:=h x (List.mem_cons_self ..);have hp:(sndB x).length≤4096:=by rw[sndB_len];omega
  have hk:=frame_take (rest:=journB L++t) hp;rw[journB_cons,List.append_assoc,scanR_ok (by rw[hk]),hk];show sndB x::(scanR ((frameB (sndB x)++(journB L++t)).drop ((sndB x).length+12))).1=_;rw[List.drop_left' (frameB_length _),scan_journ L fun y hy=>h y (List.mem_cons_of_mem _ hy)];rfl
theorem OkJ.texts:∀{L k:List Snd},OkJ L k→∀x∈k,x.s.length≤64
 |_,[],_,_,h=>nomatch h
 |L,y::k,h,x,hx=>by
  rcases List.mem_cons.1 hx with rfl|hx
  ·exact(checkJ_ok h.1).2
  ·exact OkJ.texts h.2.2 x hx
theorem read_file{L:List Snd}{t:Bytes}(h:OkJ [] L)(ht:(takeR t).2.2≠0):readJ [] (scanR (journB L++t)).1=L∧goodJ [] (scanR (journB L++t)).1=(journB L).length:=by
 rw[scan_journ L h.texts,scanR_bad ht,readJ_app L [] [] h,goodJ_app L [] [] h];exact⟨rfl,rfl⟩
theorem part_bad{p:Bytes}(hp:p.length≤4096){k:Nat}(hk:k<p.length+12):(takeR ((frameB p).take k)).2.2≠0:=by
 intro h;have hl:=takeR_len h;have hf:=take_frame h;have hfl:=frameB_length p;obtain⟨q,hq⟩:∃q,(takeR ((frameB p).take k)).1=q:=⟨_,rfl⟩;rw[hq] at hf hl;rw[List.length_take] at hl;rw[List.take_take,Nat.min_eq_left (by omega)] at hf
 have e1:frameB p=frameB q++(frameB p).drop (takeR ((frameB p).take k)).2.1:=by
  rw[←hf,List.take_append_drop]
 have e2:=frame_take (p:=q) (rest:=(frameB p).drop (takeR ((frameB p).take k)).2.1) (by omega);rw[←e1] at e2;have e3:=frame_take (p:=p) (rest:=[]) hp;rw[List.append_nil,e2] at e3;have:q.length+12=p.length+12:=congrArg (fun z=>z.2.1) e3;omega
def chA(u:Bytes):Chg:=⟨0,u,0⟩
theorem upd_same{α:Type}(f:Nat→α)(i:Nat)(x:α):upd f i x i=x:=if_pos rfl
structure FileIs (y:FileS) (L:List Snd):Prop where
 loose:y.loose=[]
 same:y.sure=y.seen
 u:y.seen.u=journB L
 th:y.seen.th=false→L=[]
structure TornJ (y:FileS) (L:List Snd) (x:Snd):Prop where
 l:y.loose=[]∨y.loose=[chA (frameB (sndB x))]
 su:y.sure.u=journB L
 th:y.sure.th=false→L=[]
structure Behind (y:FileS) (L:List Snd) (tl:Bytes):Prop where
 loose:y.loose=[]
 same:y.sure=y.seen
 u:y.seen.u=journB L++tl
 bad:(takeR tl).2.2≠0
 th:y.seen.th=false→L=[]∧tl=[]
theorem FileIs.behind{y:FileS}{L:List Snd}(k:FileIs y L):Behind y L []:=⟨k.loose,k.same,by rw[List.append_nil];exact k.u,takeR_nil,fun h=>⟨k.th h,rfl⟩⟩
theorem crash_norm{y:FileS}(hl:y.loose=[])(kept torn:Int):crashC y kept torn=y.sure:=by
 unfold crashC keptN;rw[hl];have e0:min kept.toNat ([]:List Chg).length=0:=Nat.min_zero _;rw[e0];rfl
theorem crash_file{y:FileS}{L:List Snd}(k:FileIs y L)(kept torn:Int):Behind (crashF y kept torn) L []:=by
 unfold crashF;rw[crash_norm k.loose,k.same];exact⟨rfl,rfl,by rw[List.append_nil];exact k.u,takeR_nil,fun h=>⟨k.th h,rfl⟩⟩
theorem crash_torn{y:FileS}{L:List Snd}{x:Snd}(hx:x.s.length≤64)(k:TornJ y L x)(kept torn:Int):∃L' tl,(L'=L∨L'=L++[x])∧Behind (crashF y kept torn) L' tl:=by
 have keep:crashC y kept torn=y.sure→∃L' tl,(L'=L∨L'=L++[x])∧Behind (crashF y kept torn) L' tl:=fun h=>by
  refine⟨L,[],.inl rfl,?_⟩;unfold crashF;rw[h];exact⟨rfl,rfl,by rw[List.append_nil];exact k.su,takeR_nil,fun h=>⟨k.th h,rfl⟩⟩
 rcases k.l with hl|hl
 ·exact keep (crash_norm hl _ _)
 have c1:∀i,min kept.toNat 1=i→crashC y kept torn=(match [chA (frameB (sndB x))][i]? with
   |some c=>if tears c torn then do1 (doL y.sure ([chA (frameB (sndB x))].take i)) (tornC c torn) else doL y.sure ([chA (frameB (sndB x))].take i)
   |none=>doL y.sure ([chA (frameB (sndB x))].take i)):=fun i hi=>by
  unfold crashC keptN;have h1:[chA (frameB (sndB x))].length=1:=rfl;rw[hl,h1,hi]
  all_goals rfl
 rcases(show min kept.toNat 1=0∨min kept.toNat 1=1 by omega) with hm|hm
 ·have h := c1 0 hm
  by_cases ht:tears (chA (frameB (sndB x))) torn
  ·have h : crashC y kept torn = do1 y.sure (tornC (chA (frameB (sndB x))) torn) := h.trans (if_pos ht)
   have hfl:=frameB_length (sndB x);have hsl:=sndB_len x;refine⟨L,(frameB (sndB x)).take (min torn (((frameB (sndB x)).length:Int) - 1)).toNat,.inl rfl,?_⟩;unfold crashF;rw[h];refine⟨rfl,rfl,?_,part_bad (by omega) (by omega),(fun h=>by cases h)⟩;show y.sure.u++_=_;rw[k.su];rfl
  ·exact keep (h.trans (if_neg ht))
 ·refine ⟨L ++ [x], [], .inr rfl, ?_⟩
  unfold crashF;rw[c1 1 hm];refine⟨rfl,rfl,?_,takeR_nil,(fun h=>by cases h)⟩;show y.sure.u++frameB (sndB x)=_;rw[k.su,List.append_nil,journB_app,journB_one]
abbrev TTk:Nat:=56
abbrev TTks:Nat:=45
abbrev TFen:Nat:=31
abbrev TJou:Nat:=91
abbrev TMt:Nat:=89
theorem snd_one(x:Snd):(sndC x).all AV.one=true:=rfl
noncomputable def sndsC:List Snd→List AV
 |[]=>[]
 |c::l=>sndC c++sndsC l
theorem sndsC_len:∀l:List Snd,(sndsC l).length=5*l.length
 |[]=>rfl
 |c::l=>by
  have:=sndsC_len l;rw[sndsC,List.length_append,this,List.length_cons];show 5+_=_;omega
theorem sndsC_app:∀a b:List Snd,sndsC (a++b)=sndsC a++sndsC b
 |[],_=>rfl
 |c::a,b=>by rw[List.cons_append,sndsC,sndsC_app a b,sndsC,List.append_assoc]
def SndAt(h:AHeap)(v:AV)(l:List Snd):Prop:=(v=.nsl∧l=[])∨∃c,v=.sl c 0 l.length 5∧RowH h c TTk (sndsC l)∧c<h.next
theorem fitTk:fitB Try.prog TTk 48=true:=by kernel_rfl
theorem bldTk(h:AHeap)(k t e q:Int)(s:Bytes):bldSl Try.prog h TTks 1 [(0,.agg [.int .i64 k,.int .i64 t,.int .i64 e,.int .i64 q,strA s])]=outNewS h TTk [.int .i64 k,.int .i64 t,.int .i64 e,.int .i64 q,strA s] 1 5:=by kernel_rfl
section
variable {h h':AHeap}{v:AV}{l:List Snd}{b1:Nat}{c:Snd}
theorem SndAt.tch{S:List Nat}(k:SndAt h v l)(t:Tch S h h')(hd:∀b∈blkV v,b ∉ S):SndAt h' v l:=by
 rcases k with k|⟨c,rfl,h2,h3⟩
 ·exact .inl k
 ·exact .inr ⟨c,rfl,h2.tch t h3 (hd c (List.mem_singleton.2 rfl)),Nat.lt_of_lt_of_le h3 t.1⟩
theorem SndAt.lt(k:SndAt h v l):∀b∈blkV v,b<h.next:=by
 rcases k with⟨rfl,_⟩|⟨c,rfl,_,h3⟩
 ·exact fun b hb=>nomatch hb
 ·intro b hb
  rw[List.mem_singleton.1 hb];exact h3
theorem SndAt.one(k:SndAt h v l):v.one=true∧AV.cells v=[v]:=by
 rcases k with⟨rfl,rfl⟩|⟨c,rfl,_⟩<;>exact⟨rfl,rfl⟩
theorem SndAt.len(k:SndAt h v l):lenL v=some (l.length:Int):=by
 rcases k with⟨rfl,rfl⟩|⟨c,rfl,_⟩<;>rfl
theorem snds_ld{c i:Nat}(k:RowH h c TTk (sndsC l))(hi:i<l.length):ldRow h 5 (.ptr c (0+i*5))=some (sndC l[i]):=by
 have e:sndsC l=sndsC (l.take i)++(sndC l[i]++sndsC (l.drop (i+1))):=by
  have:=sndsC_app (l.take i) (l.drop i);rw[List.take_append_drop] at this;rw[this,List.drop_eq_getElem_cons hi,sndsC]
 have hl:(sndsC (l.take i)).length=0+i*5:=by rw[sndsC_len,List.length_take];omega
 rw[k.ld (by rw[sndsC_len];omega),e,List.drop_left' hl]
 congr 1
theorem SndAt.at(k:SndAt h v l){i:Nat}(hi:i<l.length):∃p,idxP 5 v (i:Int)=some p∧ldRow h 5 p=some (sndC l[i]):=by
 rcases k with⟨_,rfl⟩|⟨c,rfl,h2,h3⟩
 ·cases hi
 ·exact⟨_,idxP_sl hi,snds_ld h2 hi⟩
theorem SndAt.push(k:SndAt h v l)(kr:RowH h b1 TTk (sndC c))(hm:l.length<10000000)(hx:h.ex=[]):
  ∃h',opAppend Try.prog h TTks TTks v (.sl b1 0 1 5)=some (.val (.sl h.next 0 (l.length+1) 5),h')∧SndAt h' (.sl h.next 0 (l.length+1) 5) (l++[c])∧Tch (blkV v) h h':=by
 have he:Abs.elemOf Try.prog TTks=some TTk:=by kernel_rfl
 have hu:notInt Try.prog TTks=true:=by kernel_rfl
 have hsz:Try.prog.cellsOf TTk=5:=by kernel_rfl
 have hex:memB TTk h.ex=false:=by rw[hx];rfl
 have eb:sndsC (l++[c])=sndsC l++sndC c:=by
  rw[sndsC_app];show sndsC l++(sndC c++[])=_;rw[List.append_nil]
 have el:l.length+1=(l++[c]).length:=by rw[List.length_append,List.length_singleton]
 rcases k with⟨rfl,rfl⟩|⟨b,rfl,h2,h3⟩
 ·have a1 := append_new (P := Try.prog) (h := h) (t := TTks) (u := TTks) (n := 0) (x := .sl b1 0 1 5) he hu hsz rfl (firstRow kr rfl) (bytesFit_of fitTk (by omega) (by omega)) rfl hex
  refine⟨_,a1,.inr ⟨h.next,by rw[el],?_,Nat.lt_succ_self _⟩,Tch.newH _ _ _ _⟩;rw[eb];exact RowH.new _ _ _
 ·have hcl := sndsC_len l
  have a1:=append_more (P:=Try.prog) (h:=h) (t:=TTks) (u:=TTks) (b:=b) (o:=0) (m:=l.length) (n:=0) (x:=.sl b1 0 1 5) (cs:=sndsC l) he hu hsz rfl (firstRow kr rfl) (bytesFit_of fitTk (by omega) (by omega)) rfl hex (by
   have:=h2.part (o:=0) (n:=(sndsC l).length) (by omega);rw[List.drop_zero,List.take_length] at this;rw[show l.length*5=(sndsC l).length by omega];exact this) h2.type
  refine⟨_,a1,.inr ⟨h.next,by rw[el],?_,Nat.lt_succ_self _⟩,(Tch.put (S:=[b]) (.inl (List.mem_singleton.2 rfl)) _).trans (Tch.newH _ _ _ _)⟩;rw[eb];exact RowH.new (h.put b .dead) _ _
end
noncomputable def mtE(l:List (Int×Snd)):List (AV×AV):=l.map fun p=>(.int .i64 p.1,.agg (sndC p.2))
def lookT(k:Int):List (Int×Snd)→Option Snd
 |[]=>none
 |p::l=>if k=p.1 then some p.2 else lookT k l
def putT(k:Int)(v:Snd):List (Int×Snd)→List (Int×Snd)
 |[]=>[(k,v)]
 |p::l=>if k=p.1 then (k,v)::l else p::putT k v l
theorem lookT_put(k:Int)(v:Snd)(k':Int):∀l,lookT k' (putT k v l)=if k=k' then some v else lookT k' l
 |[]=>by
  show (if k'=k then some v else none)=_
  by_cases h:k=k'
  ·rw[if_pos h,if_pos h.symm]
  ·rw [if_neg h, if_neg (fun hh => h hh.symm)]
   rfl
 |p::l=>by
  unfold putT
  by_cases h1:k=p.1
  ·rw [if_pos h1]
   unfold lookT
   by_cases h2:k'=k
   ·rw[if_pos h2,if_pos h2.symm]
   ·rw[if_neg h2,if_neg (fun h=>h2 h.symm),if_neg (by rw[←h1];exact h2)]
  ·rw [if_neg h1]
   unfold lookT
   by_cases h2:k'=p.1
   ·rw[if_pos h2,if_pos h2,if_neg (fun h=>h1 (h.trans h2))]
   ·rw [if_neg h2, if_neg h2]
    exact lookT_put k v k' l
theorem sameKI(P:Program)(t:TypeId)(a b:Int):keySame P t (.int .i64 a) (.int .i64 b)=some (decide (a=b)):=by
 show sameKey (.int .i64 a) (.int .i64 b)=_;unfold sameKey
 by_cases h:a=b
 ·subst h
  simp
 ·simp[h]
theorem find_mt(P:Program)(t:TypeId)(k:Int):∀l:List (Int×Snd),findM P t (.int .i64 k) (mtE l)=some ((lookT k l).map fun x=>.agg (sndC x))
 |[]=>rfl
 |p::l=>by
  show (match keySame P t (.int .i64 k) (.int .i64 p.1) with
   |some true=>some (some (AV.agg (sndC p.2)))
   |some false=>findM P t (.int .i64 k) (mtE l)
   |none=>none)=_
  rw[sameKI];unfold lookT
  by_cases h:k=p.1
  ·rw [decide_eq_true h, if_pos h]
   rfl
  ·rw [decide_eq_false h, if_neg h]
   exact find_mt P t k l
theorem put_mt(P:Program)(t:TypeId)(k:Int)(v:Snd):∀l:List (Int×Snd),putM P t (.int .i64 k) (.agg (sndC v)) (mtE l)=some (mtE (putT k v l))
 |[]=>rfl
 |p::l=>by
  show (match keySame P t (.int .i64 k) (.int .i64 p.1) with
   |some true=>some ((AV.int .i64 k,AV.agg (sndC v))::mtE l)
   |some false=>match putM P t (.int .i64 k) (.agg (sndC v)) (mtE l) with
    |some r=>some ((AV.int .i64 p.1,AV.agg (sndC p.2))::r)
    |none=>none
   |none=>none)=_
  rw[sameKI];unfold putT
  by_cases h:k=p.1
  ·rw [decide_eq_true h, if_pos h]
   rfl
  ·rw [decide_eq_false h, if_neg h]
   dsimp only;rw[put_mt P t k v l];rfl
theorem undMt:Try.prog.underlying TMt=some (.map 3 TTk):=by kernel_rfl
theorem keyI(k:Int):keyT Try.prog 3 (.int .i64 k)=true:=by
 unfold keyT;rw[Try.underlying3]
theorem mapLookT{H:AHeap}{mb:Nat}{l:List (Int×Snd)}(k:Int)(hm:H.get mb=some (.map (mtE l))):opLookup Try.prog H TMt false (some (.mp mb)) (some (.int .i64 k))=some (.val (.agg (sndC ((lookT k l).getD z0))),H):=by
 unfold opLookup;rw[undMt];dsimp only;rw[keyI,if_pos rfl]
 have hg:mapGet H (.mp mb)=some (mtE l):=by
  unfold mapGet;dsimp only;rw[hm]
 rw[hg];dsimp only;rw[find_mt]
 cases lookT k l with
 |none=>
  have hz:zeroA Try.prog TTk=some (.agg (sndC z0)):=by kernel_rfl
  unfold lookOut;dsimp only[Option.map];rw[hz];rfl
 |some w=>rfl
theorem mapPutT{H:AHeap}{mb:Nat}{l:List (Int×Snd)}(k:Int)(v:Snd)(hm:H.get mb=some (.map (mtE l))):opMapUpdate Try.prog H TMt (some (.mp mb)) (some (.int .i64 k)) (some (.agg (sndC v)))=some (.skip,H.put mb (.map (mtE (putT k v l)))):=by
 unfold opMapUpdate;rw[undMt];dsimp only;rw[keyI,if_pos rfl]
 have hg:mapGet H (.mp mb)=some (mtE l):=by
  unfold mapGet;dsimp only;rw[hm]
 rw[hg];dsimp only;rw[put_mt];rfl
structure JD (H:AHeap) (jb db:Nat) (sv:AV) (mb:Nat) (ml:List (Int×Snd)) (L:List Snd) (br:Int):Prop where
 row:RowH H jb TJou [.ptr db 0,sv,.mp mb,.int .i64 br]
 hjb:jb<H.next
 sl:SndAt H sv L
 mp:H.get mb=some (.map (mtE ml))
 hmb:mb<H.next
 look:∀k,lookT k ml=lastL L k
def JAt(nb:Nat→Prop)(H:AHeap)(jb db:Nat)(L:List Snd)(br:Int):Prop:=∃sv mb ml,JD H jb db sv mb ml L br∧nb jb∧nb mb∧(∀b∈blkV sv,nb b)
theorem y3b{H:AHeap}{b b' e:Nat}{l:List AV}{es:List (AV×AV)}(k:RowH H b e l)(k':H.get b'=some (.map es)):b≠b':=by
 intro hb;subst hb;obtain⟨t,h1,_⟩:=k;rw[h1] at k'
 cases k'
section
variable {n d jb db:Nat}{nb:Nat→Prop}{H H':AHeap}{L:List Snd}{br:Int}{x:Snd}{Q:ARes→AHeap→Prop}
theorem JAt.tch{S:List Nat}(J:JAt nb H jb db L br)(t:Tch S H H')(hS:∀b∈S,¬nb b):JAt nb H' jb db L br:=by
 obtain⟨sv,mb,ml,D,n1,n2,n3⟩:=J;exact⟨sv,mb,ml,⟨D.row.tch t D.hjb (fun h=>hS _ h n1),Nat.lt_of_lt_of_le D.hjb t.1,D.sl.tch t (fun b hb h=>hS _ h (n3 b hb)),(t.2.2 mb D.hmb (fun h=>hS _ h n2)).trans D.mp,Nat.lt_of_lt_of_le D.hmb t.1,D.look⟩,n1,n2,n3⟩
theorem above_w(a b c e:Int):world n (d+1) 19 [.agg [.int .i64 a,.int .i64 b],.agg [.int .i64 c,.int .i64 e]] H=some (.ret (.bool (aboveJ a b c e)),H):=by
 apply Wp.eq;rw[w_message_Above];refine y3d ?_;unfold message_Above aboveJ;refine y17 (Mem.nil [] H) rfl fun h2 M2=>y17 M2 rfl fun h4 M4=>?_;have k1:=M4.at1.1;have k0:=M4.at0.1;have A:=M4.tch.above;refine Wp.obind (fldP_ptr _ _ _) (Wp.obind (y5 k1 (show [AV.int .i64 a,.int .i64 b][0+0]? =some (.int .i64 a) from rfl)) (Wp.obind (avInt_int _ _) (Wp.obind (fldP_ptr _ _ _) (Wp.obind (y5 k0 (show [AV.int .i64 c,.int .i64 e][0+0]? =some (.int .i64 c) from rfl)) (Wp.obind (avInt_int _ _) (Wp.lett ?_))))))
 by_cases h:a=c
 ·rw [if_neg (by simpa using h)]
  refine y7 (bne_f h) (Wp.obind (fldP_ptr _ _ _) (Wp.obind (y5 k1 (show [AV.int .i64 a,.int .i64 b][0+1]? =some (.int .i64 b) from rfl)) (Wp.obind (avInt_int _ _) (Wp.obind (fldP_ptr _ _ _) (Wp.obind (y5 k0 (show [AV.int .i64 c,.int .i64 e][0+1]? =some (.int .i64 e) from rfl)) (Wp.obind (avInt_int _ _) (Wp.lett (Wp.ret ⟨A,rfl,rfl,rfl⟩))))))))
 ·rw [if_pos h]
  refine yc (bne_t h) (Wp.obind (fldP_ptr _ _ _) (Wp.obind (y5 k1 (show [AV.int .i64 a,.int .i64 b][0+0]? =some (.int .i64 a) from rfl)) (Wp.obind (avInt_int _ _) (Wp.obind (fldP_ptr _ _ _) (Wp.obind (y5 k0 (show [AV.int .i64 c,.int .i64 e][0+0]? =some (.int .i64 c) from rfl)) (Wp.obind (avInt_int _ _) (Wp.lett (Wp.ret ⟨A,rfl,rfl,rfl⟩))))))))
theorem eqJou(b:Nat)(h:AHeap):opBin Try.prog h .eql 67 true (some (.ptr b 0)) (some AV.nilp)=some (.val (.bool false),h):=by kernel_rfl
theorem jnext_w(J:JAt nb H jb db L br){k:Int}(hq: -1≤(lastZ L k).q∧(lastZ L k).q <9223372036854775806):∃H',world n (d+1) 29 [.ptr jb 0,.int .i64 k] H=some (.ret (.tup [.agg [.int .i64 (lastZ L k).t,.int .i64 (lastZ L k).e],.int .i64 ((lastZ L k).q+1)]),H')∧Tch [] H H':=by
 suffices hK:Wp (world n (d+1) 29 [.ptr jb 0,.int .i64 k] H) fun r H'=>r=.ret (.tup [.agg [.int .i64 (lastZ L k).t,.int .i64 (lastZ L k).e],.int .i64 ((lastZ L k).q+1)])∧Tch [] H H' by
  obtain⟨_,H',e,rfl,t⟩:=hK;exact⟨H',e,t⟩
 obtain⟨sv,mb,ml,D,n1,n2,n3⟩:=J;rw[w_journal_Journal_Next];unfold journal_Journal_Next;refine y11 (Mem.nil [] H) fun h2 M2=>?_;have t2:=M2.tch;have r2:=D.row.tch t2 D.hjb (fun h=>nomatch h);have m2:h2.get mb=some (.map (mtE ml)):=(t2.2.2 mb D.hmb (fun h=>nomatch h)).trans D.mp
 have hz:(lookT k ml).getD z0=lastZ L k:=by
  unfold lastZ;rw[D.look]
 have hl:=mapLookT (H:=h2) k m2;rw[hz] at hl;refine Wp.outK (eqJou jb h2) (Wp.obind (avBool_bool _) (y7 rfl (Wp.obind (nilC_ptr _ _) (Wp.obind (fldP_ptr _ _ _) (Wp.obind (y5 r2 (show [AV.ptr db 0,sv,.mp mb,.int .i64 br][0+2]? =some (.mp mb) from rfl)) (Wp.outK hl (Wp.obind (avAgg_agg _) (y11 M2 fun h4 M4=>?_))))))));rw[newP_eq h2,newP_eq H];refine y1a M4 rfl rfl rfl fun h5 M5=>?_;have k5:=M5.at0.1;refine Wp.obind (show ldRow h5 2 (.ptr h2.next 1)=some [.int .i64 (lastZ L k).t,.int .i64 (lastZ L k).e] from k5.ld (o:=1) (n:=2) (show 1+2≤5 by decide)) ?_;have g3:(sndC (lastZ L k))[3]? =some (.int .i64 (lastZ L k).q):=rfl;refine Wp.obind (y5 k5 g3) (Wp.obind (avInt_int _ _) (ye (by omega) (by omega) (Wp.stAll M5.at1.1 rfl rfl rfl fun h6 k6 t6 n6=>?_)));have M6:=Mem.upd (xs:=[(h2.next,_,_)]) M5 t6 k6;refine Wp.chk (and_t (reLoad_c (by kernel_rfl) (y5 M6.at0.1 g3)) rfl) (Wp.obind (k6.ldAll rfl) (Wp.ret ⟨rfl,M6.tch⟩))
theorem jref_w(J:JAt nb H jb db L br)(hq: -1≤(lastZ L x.k).q∧(lastZ L x.k).q <9223372036854775806):∃H',world n (d+2) 47 [.ptr jb 0,.agg (sndC x)] H=some (.ret (.int .i64 (refJ L x)),H')∧Tch [] H H':=by
 suffices hK:Wp (world n (d+2) 47 [.ptr jb 0,.agg (sndC x)] H) fun r H'=>r=.ret (.int .i64 (refJ L x))∧Tch [] H H' by
  obtain⟨_,H',e,rfl,t⟩:=hK;exact⟨H',e,t⟩
 rw[w_journal_Journal_refuses];unfold journal_Journal_refuses;refine y17 (Mem.nil [] H) (snd_one x) fun h2 M2=>?_;have k2:=M2.at0.1;have g0:(sndC x)[0+0]? =some (.int .i64 x.k):=rfl;have g3:(sndC x)[0+3]? =some (.int .i64 x.q):=rfl;obtain⟨h3,e3,t3⟩:=jnext_w (n:=n) (d:=d) (J.tch M2.tch (fun _ h=>nomatch h)) hq;have l2:=M2.at0.2.1;have k3:=k2.tch t3 l2 (fun h=>nomatch h);refine Wp.obind (fldP_ptr _ _ _) (Wp.obind (y5 k2 g0) (Wp.obind (avInt_int _ _) (Wp.callN e3 (Wp.obind (extT_0 _ _) (Wp.obind (avAgg_agg _) (Wp.obind (extT_1 _ _ _) (Wp.obind (avInt_int _ _) (y11 (Mem.nil [] h3) fun h4 M4=>?_))))))));rw[newP_eq h3];refine y1a M4 rfl rfl rfl fun h5 M5=>y32 M5 rfl ?_;have k5:=k3.tch M5.tch (Nat.lt_of_lt_of_le l2 t3.1) (fun h=>nomatch h);have T5:=(M2.tch.trans t3).trans M5.tch;refine Wp.obind (fldP_ptr _ _ _) (Wp.obind (show ldRow h5 2 (.ptr H.next (0+1))=some [.int .i64 x.t,.int .i64 x.e] from k5.ld (o:=0+1) (n:=2) (show 0+1+2≤5 by decide)) (Wp.callN (above_w (n:=n) (d:=d) _ _ _ _) (Wp.obind (avBool_bool _) ?_)));unfold refJ
 cases aboveJ (lastZ L x.k).t (lastZ L x.k).e x.t x.e with
 |true=>
  rw[if_pos rfl];exact yc rfl (Wp.ret ⟨rfl,T5⟩)
 |false=>
  rw[if_neg (by decide)];refine y7 rfl (Wp.obind (fldP_ptr _ _ _) (Wp.obind (y5 k5 g3) (Wp.obind (avInt_int _ _) (Wp.lett ?_))))
  by_cases h:x.q=(lastZ L x.k).q+1
  ·rw [if_neg (by simpa using h)]
   exact y7 (bne_f h) (Wp.ret ⟨rfl,T5⟩)
  ·rw [if_pos h]
   exact yc (bne_t h) (Wp.ret ⟨rfl,T5⟩)
theorem jput_w(J:JAt nb H jb db L br)(hx:H.ex=[])(hm:L.length<10000000):∃H' S,world n (d+1) 48 [.ptr jb 0,.agg (sndC x)] H=some (.ret (.tup []),H')∧JAt (fun b=>nb b∨(H.next≤b∧b<H'.next)) H' jb db (L++[x]) br∧Tch S H H'∧∀b∈S,nb b:=by
 suffices hK:Wp (world n (d+1) 48 [.ptr jb 0,.agg (sndC x)] H) fun r H'=>∃S,r=.ret (.tup [])∧JAt (fun b=>nb b∨(H.next≤b∧b<H'.next)) H' jb db (L++[x]) br∧Tch S H H'∧∀b∈S,nb b by
  obtain⟨_,H',e,S,rfl,k⟩:=hK;exact⟨H',S,e,k⟩
 obtain⟨sv,mb,ml,D,n1,n2,n3⟩:=J;rw[w_journal_Journal_put];unfold journal_Journal_put;refine y17 (Mem.nil [] H) (snd_one x) fun h2 M2=>?_;have k2:=M2.at0.1;have l2:=M2.at0.2.1;have t2:=M2.tch;have nx2:=t2.1;have r2:=D.row.tch t2 D.hjb (fun h=>nomatch h);have g1:[AV.ptr db 0,sv,.mp mb,.int .i64 br][0+1]? =some sv:=rfl;have g0:(sndC x)[0+0]? =some (.int .i64 x.k):=rfl;refine Wp.obind (nilC_ptr _ _) (Wp.obind (fldP_ptr _ _ _) (Wp.obind (y5 r2 g1) (Wp.obind (k2.ldAll rfl) (y31 (Mem.nil [] h2) (bldTk _ _ _ _ _ _) rfl (by rw[t2.2.1,hx];rfl) fun h3 M3=>?_))));have k3:=M3.at0.1;have t3:=M3.tch;have nx3:=t3.1;have r3:=r2.tch t3 (Nat.lt_of_lt_of_le D.hjb t2.1) (fun h=>nomatch h);have s3:=(D.sl.tch t2 (fun _ _ h=>nomatch h)).tch t3 (fun _ _ h=>nomatch h);obtain⟨h4,e4,s4,t4⟩:=s3.push (c:=x) k3 hm (by rw[t3.2.1,t2.2.1,hx]);have nx4:=t4.1
 have hjs:jb ∉ blkV sv:=fun hb=>by
  rcases D.sl with⟨rfl,_⟩|⟨c,rfl,hr,_⟩
  ·cases hb
  ·exact y3a D.row hr (by decide) (List.mem_singleton.1 hb)
 have hms:mb ∉ blkV sv:=fun hb=>by
  rcases D.sl with⟨rfl,_⟩|⟨c,rfl,hr,_⟩
  ·cases hb
  ·exact y3b hr D.mp (List.mem_singleton.1 hb).symm
 have hjm:jb≠mb:=y3b D.row D.mp;have hjb:=D.hjb;have hmb:=D.hmb;have r4:=r3.tch t4 (by omega) hjs
 have k4:=(k2.tch t3 l2 (fun h=>nomatch h)).tch t4 (by omega) (fun hb=>by
  have:=D.sl.lt _ hb;omega)
 have m4:h4.get mb=some (.map (mtE ml)):=(t4.2.2 mb (by omega) hms).trans ((t3.2.2 mb (by omega) (fun h=>nomatch h)).trans ((t2.2.2 mb hmb (fun h=>nomatch h)).trans D.mp));refine Wp.chk (and_t rfl (and_t (reLoad_c (by kernel_rfl) (y5 r3 g1)) rfl)) (Wp.outK e4 (Wp.obind (nilC_ptr _ _) (Wp.obind (fldP_ptr _ _ _) (Wp.st1 r4 (show 0+1<4 by decide) rfl fun h5 r5 t5 n5=>?_))));have k5:=k4.tch t5 (by omega) (fun h=>by have:=List.mem_singleton.1 h;omega);have m5:h5.get mb=some (.map (mtE ml)):=(t5.2.2 mb (by omega) (fun h=>hjm (List.mem_singleton.1 h).symm)).trans m4;refine Wp.obind (nilC_ptr _ _) (Wp.obind (fldP_ptr _ _ _) (Wp.obind (y5 r5 (show [AV.ptr db 0,.sl h3.next 0 (L.length+1) 5,.mp mb,.int .i64 br][0+2]? =some (.mp mb) from rfl)) (Wp.obind (fldP_ptr _ _ _) (Wp.obind (y5 k5 g0) (Wp.obind (avInt_int _ _) (Wp.obind (k5.ldAll rfl) (Wp.effK (mapPutT x.k x m5) ?_)))))));have t6:Tch [mb] h5 (h5.put mb (.map (mtE (putT x.k x ml)))):=Tch.put (.inl (List.mem_singleton.2 rfl)) _
 have s5:=s4.tch t5 (fun b hb h=>by
  have h1:=List.mem_singleton.1 hb;have h2:=List.mem_singleton.1 h;omega)
 have s6:=s5.tch t6 (fun b hb h=>by
  have h1:=List.mem_singleton.1 hb;have h2:=List.mem_singleton.1 h;omega)
 refine Wp.ret ⟨jb::mb::blkV sv,rfl,⟨_,mb,_,⟨r5.tch t6 (by omega) (fun h=>hjm (List.mem_singleton.1 h)),by show jb<h5.next;omega,s6,get_put_same _ _,by show mb<h5.next;omega,fun k=>?_⟩,.inl n1,.inl n2,fun b hb=>.inr ?_⟩,?_,fun b hb=>?_⟩
 ·rw[lookT_put,lastL_snoc,D.look]
 ·rw [List.mem_singleton.1 hb]
  show H.next≤h3.next∧h3.next<h5.next;have:=s4.lt h3.next (List.mem_singleton.2 rfl);omega
 ·refine (((t2.mono fun _ h => nomatch h).trans (t3.mono fun _ h => nomatch h)).trans (t4.mono fun b hb => .inl (List.mem_cons_of_mem _ (List.mem_cons_of_mem _ hb)))).trans ((t5.mono fun b hb => .inl ?_).trans (t6.mono fun b hb => .inl ?_))
  ·rw [List.mem_singleton.1 hb]
   exact List.mem_cons_self ..
  ·rw [List.mem_singleton.1 hb]
   exact List.mem_cons_of_mem _ (List.mem_cons_self ..)
 ·rcases List.mem_cons.1 hb with rfl | hb
  ·exact n1
  rcases List.mem_cons.1 hb with rfl|hb
  ·exact n2
  ·exact n3 b hb
end
abbrev TNum:Nat:=132
abbrev TFour:Nat:=123
def numL(x:Snd):List AV:=[.int .i64 x.k,.int .i64 1048576,.int .i64 x.t,.int .i64 1099511627776,.int .i64 x.e,.int .i64 1048576,.int .i64 x.q,.int .i64 1048576]
theorem bldNum(a b c e:Int):bldS Try.prog TNum [(0,.agg ([.int .i64 a,.int .i64 1048576]:List AV)),(1,.agg ([.int .i64 b,.int .i64 1099511627776]:List AV)),(2,.agg ([.int .i64 c,.int .i64 1048576]:List AV)),(3,.agg ([.int .i64 e,.int .i64 1048576]:List AV))]=some [.int .i64 a,.int .i64 1048576,.int .i64 b,.int .i64 1099511627776,.int .i64 c,.int .i64 1048576,.int .i64 e,.int .i64 1048576]:=by kernel_rfl
theorem ixNum0(x:Snd)(H:AHeap):opIndex Try.prog H TNum (some (.agg (numL x))) (some (.int .i64 ((0:Nat):Int)))=some (.val (.agg [.int .i64 x.k,.int .i64 1048576]),H):=by kernel_rfl
theorem ixNum1(x:Snd)(H:AHeap):opIndex Try.prog H TNum (some (.agg (numL x))) (some (.int .i64 ((1:Nat):Int)))=some (.val (.agg [.int .i64 x.t,.int .i64 1099511627776]),H):=by kernel_rfl
theorem ixNum2(x:Snd)(H:AHeap):opIndex Try.prog H TNum (some (.agg (numL x))) (some (.int .i64 ((2:Nat):Int)))=some (.val (.agg [.int .i64 x.e,.int .i64 1048576]),H):=by kernel_rfl
theorem ixNum3(x:Snd)(H:AHeap):opIndex Try.prog H TNum (some (.agg (numL x))) (some (.int .i64 ((3:Nat):Int)))=some (.val (.agg [.int .i64 x.q,.int .i64 1048576]),H):=by kernel_rfl
section
variable {n d:Nat}{h H:AHeap}{x:Snd}{p:Bytes}{r:RS}{Q:ARes→AHeap→Prop}
theorem numbers_w:world n (d+1) 63 [.agg (sndC x)] H=some (.ret (.agg (numL x)),H):=by
 apply Wp.eq;rw[w_journal_numbers];refine y3d ?_;unfold journal_numbers;refine y17 (Mem.nil [] H) (snd_one x) fun h2 M2=>y11 M2 fun h4 M4=>?_;have k1:=M4.at1.1;have g0:(sndC x)[0+0]? =some (.int .i64 x.k):=rfl;have g1:(sndC x)[0+1+0]? =some (.int .i64 x.t):=rfl;have g2:(sndC x)[0+1+1]? =some (.int .i64 x.e):=rfl;have g3:(sndC x)[0+3]? =some (.int .i64 x.q):=rfl;refine Wp.obind (fldP_ptr _ _ _) (Wp.obind (y5 k1 g0) (Wp.obind (avInt_int _ _) (Wp.obind (fldP_ptr _ _ _) (Wp.obind (fldP_ptr _ _ _) (Wp.obind (y5 k1 g1) (Wp.obind (avInt_int _ _) (Wp.obind (fldP_ptr _ _ _) (Wp.obind (fldP_ptr _ _ _) (Wp.obind (y5 k1 g2) (Wp.obind (avInt_int _ _) (Wp.obind (fldP_ptr _ _ _) (Wp.obind (y5 k1 g3) (Wp.obind (avInt_int _ _) (Wp.obind (bldNum _ _ _ _) ?_))))))))))))));rw[newP_eq h2];exact y1a M4 rfl rfl rfl fun h5 M5=>y32 M5 rfl (Wp.ret ⟨M5.tch.above,rfl,rfl,rfl⟩)
theorem chk_iter{T6:List AV}{i fu:Nat}{v m:Int}(hi:i<4)(hix:∀H,opIndex Try.prog H TNum (some (.agg T6)) (some (.int .i64 (i:Int)))=some (.val (.agg [.int .i64 v,.int .i64 m]),H)){k11:AHeap→R}(h1:¬numOk v m→∀H',Tch [] H H'→Q (.ret (.int .i64 2)) H')(h2:numOk v m→∀H',Tch [] H H'→Wp (journal_Check_L0 T6 k11 fu ((i+1:Nat):Int) H') Q):Wp (journal_Check_L0 T6 k11 (fu+1) (i:Int) H) Q:=by
 rw[journal_Check_L0_s];unfold journal_Check_L0b;refine Wp.lett (yc (by rw[decide_eq_true_eq];omega) (Wp.outK (hix H) (Wp.obind (avAgg_agg _) (y11 (Mem.nil [] H) fun h2' M2=>?_))));rw[newP_eq H];refine y1a M2 rfl rfl rfl fun h3 M3=>y26 M3 rfl (Wp.obind (avInt_int _ _) (Wp.lett (y8 fun j19 e19=>?_)))
 by_cases c1:v<1
 ·refine yc (decide_eq_true c1) ?_
  rw[e19];exact yc rfl (Wp.ret (h1 (fun hh=>by have:=hh.1;omega) h3 M3.tch))
 ·refine y7 (decide_eq_false c1) (y26 M3 rfl (Wp.obind (avInt_int _ _) (y26 M3 rfl (Wp.obind (avInt_int _ _) (Wp.lett ?_)))))
  by_cases c2:v>m
  ·rw [decide_eq_true c2, e19]
   exact yc rfl (Wp.ret (h1 (fun hh=>by have:=hh.2;omega) h3 M3.tch))
  ·rw [decide_eq_false c2, e19]
   refine y7 rfl (ye (by omega) (by omega) ?_);rw[show (i:Int)+1=((i+1:Nat):Int) by omega];exact h2 ⟨by omega,by omega⟩ h3 M3.tch
theorem check_w(hn:8<n)(hs:x.s.length≤1000000000):world n (d+2) 51 [.agg (sndC x)] H=some (.ret (.int .i64 (checkJ x)),H):=by
 apply Wp.eq;rw[w_journal_Check];refine y3d ?_;unfold journal_Check;refine y17 (Mem.nil [] H) (snd_one x) fun h2 M2=>y32 M2 rfl (Wp.callN (numbers_w (n:=n) (d:=d)) (Wp.obind (avAgg_agg _) (y8 fun k11 e11=>?_)));have k2:=M2.at0.1;have l2:=M2.at0.2.1;have t2:=M2.tch;obtain⟨m,rfl⟩:∃m,n=m+5:=⟨n - 5,by omega⟩
 have bad:¬numsOk x→∀H',Tch [] H H'→Above H H'∧(ARes.ret (.int .i64 2)).val.scal=true∧ARes.ret (.int .i64 2)=ARes.ret (.int .i64 (checkJ x))∧H=H:=fun hh H' t=>by
  refine⟨t.above,rfl,?_,rfl⟩;unfold checkJ;rw[if_neg hh]
 refine chk_iter (i:=0) (fu:=m+4) (by decide) (ixNum0 x) (fun hh H' t=>bad (fun h=>hh h.1) H' (t2.trans t)) fun c0 H0 t0=>chk_iter (i:=1) (fu:=m+3) (by decide) (ixNum1 x) (fun hh H' t=>bad (fun h=>hh h.2.1) H' ((t2.trans t0).trans t)) fun c1 H1 t1=>chk_iter (i:=2) (fu:=m+2) (by decide) (ixNum2 x) (fun hh H' t=>bad (fun h=>hh h.2.2.1) H' (((t2.trans t0).trans t1).trans t)) fun c2 H3 t3=>chk_iter (i:=3) (fu:=m+1) (by decide) (ixNum3 x) (fun hh H' t=>bad (fun h=>hh h.2.2.2) H' ((((t2.trans t0).trans t1).trans t3).trans t)) fun c3 H4 t4=>?_;have T4:=(((t2.trans t0).trans t1).trans t3).trans t4;have k4:=k2.tch (((t0.trans t1).trans t3).trans t4) l2 (fun h=>nomatch h);have ll:=lenS_nat x.s;rw[journal_Check_L0_s];unfold journal_Check_L0b;refine Wp.lett (y7 rfl ?_);rw[e11];refine Wp.obind (fldP_ptr _ _ _) (Wp.obind (y5 k4 (show (sndC x)[0+4]? =some (strA x.s) from rfl)) (Wp.obind (avStr_str _) (Wp.lett ?_)));have hc:checkJ x=if x.s.length>64 then 3 else 0:=if_pos ⟨c0,c1,c2,c3⟩
 rw[hc]
 by_cases h64:x.s.length>64
 ·rw [if_pos h64]
  exact yc (by rw[decide_eq_true_eq];omega) (Wp.ret ⟨T4.above,rfl,rfl,rfl⟩)
 ·rw [if_neg h64]
  exact y7 (by rw[decide_eq_false_iff_not];omega) (Wp.ret ⟨T4.above,rfl,rfl,rfl⟩)
theorem frm_iter{T6:List AV}{i fu:Nat}{v m:Int}{acc:Bytes}(hn:8<n)(hx:H.ex=[])(hi:i<4)(hv:0≤v∧v<9223372036854775808)(ha:acc.length≤1000)(hix:∀H,opIndex Try.prog H TNum (some (.agg T6)) (some (.int .i64 (i:Int)))=some (.val (.agg [.int .i64 v,.int .i64 m]),H)){k12:Bytes→AHeap→R}(h2:∀H',Tch [] H H'→Wp (journal_framed_L0 (world n (d+2)) T6 k12 fu (acc++numB 8 v.toNat) ((i+1:Nat):Int) H') Q):Wp (journal_framed_L0 (world n (d+2)) T6 k12 (fu+1) acc (i:Int) H) Q:=by
 rw[journal_framed_L0_s];unfold journal_framed_L0b;refine Wp.lett (yc (by rw[decide_eq_true_eq];omega) (Wp.outK (hix H) (Wp.obind (avAgg_agg _) (y11 (Mem.nil [] H) fun h2' M2=>?_))));rw[newP_eq H];refine y1a M2 rfl rfl rfl fun h3 M3=>y26 M3 rfl (Wp.obind (avInt_int _ _) (y1e (by omega) (by omega) ?_));have hu:=u64_w (n:=n) (d:=d) (h:=h3) (v:=v.toNat) hn (by omega) (by rw[M3.tch.2.1,hx];rfl);rw[Int.toNat_of_nonneg hv.1] at hu;refine Wp.callN hu (Wp.obind (avStr_str _) (Wp.obind (addS_val (by rw[numB_length];omega)) (ye (by omega) (by omega) ?_)));rw[show (i:Int)+1=((i+1:Nat):Int) by omega];exact h2 h3 M3.tch
theorem framed_w(hn:4096<n)(hx:H.ex=[])(hc:checkJ x=0):world n (d+5) 52 [.agg (sndC x)] H=some (.ret (.tup [strA (frameB (sndB x)),.int .i64 0]),H):=by
 obtain⟨⟨c0,c1,c2,c3⟩,c4⟩:=checkJ_ok hc;unfold numOk at c0 c1 c2 c3;apply Wp.eq;rw[w_journal_framed];refine y3d ?_;unfold journal_framed;refine y17 (Mem.nil [] H) (snd_one x) fun h2 M2=>y32 M2 rfl (Wp.callN (numbers_w (n:=n) (d:=d+3)) (Wp.obind (avAgg_agg _) (y8 fun k12 e12=>?_)));have k2:=M2.at0.1;have l2:=M2.at0.2.1;have t2:=M2.tch;have x2:h2.ex=[]:=by rw[t2.2.1,hx]
 obtain⟨m,hm⟩:∃m,n=m+5:=⟨n - 5,by omega⟩
 have hfu:∀Q:ARes→AHeap→Prop,Wp (journal_framed_L0 (world n (d+4)) (numL x) k12 (m+4+1) [] ((0:Nat):Int) h2) Q→Wp (journal_framed_L0 (world n (d+4)) (numL x) k12 n [] 0 h2) Q:=fun Q hw=>by
  rw[show journal_framed_L0 (world n (d+4)) (numL x) k12 n [] 0 h2=journal_framed_L0 (world n (d+4)) (numL x) k12 (m+4+1) [] ((0:Nat):Int) h2 from by rw[show m+4+1=n by omega];rfl];exact hw
 refine hfu _ (frm_iter (d:=d+2) (i:=0) (fu:=m+4) (by omega) x2 (by decide) (by omega) (by decide) (ixNum0 x) fun H0 t0=>frm_iter (d:=d+2) (i:=1) (fu:=m+3) (by omega) (by rw[t0.2.1,x2]) (by decide) (by omega) (by rw[List.length_append,numB_length];exact(by decide:0+8≤1000)) (ixNum1 x) fun H1 t1=>frm_iter (d:=d+2) (i:=2) (fu:=m+2) (by omega) (by rw[t1.2.1,t0.2.1,x2]) (by decide) (by omega) (by simp only[List.length_append,numB_length];exact(by decide:0+8+8≤1000)) (ixNum2 x) fun H3 t3=>frm_iter (d:=d+2) (i:=3) (fu:=m+1) (by omega) (by rw[t3.2.1,t1.2.1,t0.2.1,x2]) (by decide) (by omega) (by simp only[List.length_append,numB_length];exact(by decide:0+8+8+8≤1000)) (ixNum3 x) fun H4 t4=>?_);have t24:=((t0.trans t1).trans t3).trans t4;have T4:=t2.trans t24;have k4:=k2.tch t24 l2 (fun h=>nomatch h);have x4:H4.ex=[]:=by rw[t24.2.1,x2]
 rw[journal_framed_L0_s];unfold journal_framed_L0b;refine Wp.lett (y7 rfl ?_);rw[e12];have hb:memB 5 H4.ex=false:=by rw[x4];rfl
 have hsl:=sndB_len x
 have hS:[]++numB 8 x.k.toNat++numB 8 x.t.toNat++numB 8 x.e.toNat++numB 8 x.q.toNat++textB x.s=sndB x:=by
  unfold sndB;rw[List.nil_append]
 have hp:=put_w (n:=n) (d:=d) (h:=H4) (p:=sndB x) hn hb;rw[if_neg (by omega)] at hp;refine Wp.obind (fldP_ptr _ _ _) (Wp.obind (y5 k4 (show (sndC x)[0+4]? =some (strA x.s) from rfl)) (Wp.obind (avStr_str _) (Wp.callN (text_w (n:=n) (d:=d) (by omega) (by omega) hb) (Wp.obind (extT_0 _ _) (Wp.obind (avStr_str _) (Wp.obind (extT_1 _ _ _) (Wp.obind (avInt_int _ _) (Wp.lett (y7 rfl (Wp.obind (addS_val ?_) ?_))))))))))
 ·have : ([] ++ numB 8 x.k.toNat ++ numB 8 x.t.toNat ++ numB 8 x.e.toNat ++ numB 8 x.q.toNat ++ textB x.s).length = (sndB x).length := by rw [hS]
  rw[List.length_append] at this;omega
 rw[hS];exact Wp.callN hp (Wp.obind (extT_0 _ _) (Wp.obind (avStr_str _) (Wp.obind (extT_1 _ _ _) (Wp.obind (avInt_int _ _) (Wp.ret ⟨T4.above,rfl,rfl,rfl⟩)))))
theorem cap_ok(v:Nat):0≤cap v∧cap v≤1099511627777:=by
 unfold cap
 split<;>omega
theorem idxFour{A i:Nat}(h:i<4):idxA 4 1 (.ptr A 0) (i:Int)=some (.ptr A i):=by
 rcases(show i=0∨i=1∨i=2∨i=3 by omega) with rfl|rfl|rfl|rfl<;>rfl
theorem snd_iter{A rb i fu:Nat}{l:List AV}{h5:AHeap}(hA:h5.next=A)(hn:8<n)(hp:p.length≤1000000)(hi:i<4)(hl:l.length=4)(kA:RowH H A TFour l)(lA:A<H.next)(k:PR H rb p r)(hr:r.ok p)(lr:rb<H.next)(hne:A≠rb){k13:AHeap→R}(h2:∀H',RowH H' A TFour (l.set i (.int .i64 (cap (rNum p 8 r).1)))→PR H' rb p (rNum p 8 r).2→Tch [rb,A] H H'→Wp (journal_sendOf_L0 (world n (d+3)) (.ptr rb 0) h5 k13 fu ((i+1:Nat):Int) H') Q):Wp (journal_sendOf_L0 (world n (d+3)) (.ptr rb 0) h5 k13 (fu+1) (i:Int) H) Q:=by
 rw[journal_sendOf_L0_s];unfold journal_sendOf_L0b;obtain⟨h3,e3,k3,t3⟩:=u64_r (n:=n) (d:=d) k hr (by omega) hn;have n3:=t3.1;have kA3:=kA.tch t3 lA (fun h=>hne (List.mem_singleton.1 h));refine Wp.lett (yc (by rw[decide_eq_true_eq];omega) (Wp.callN e3 (Wp.obind (avInt_int _ _) (Wp.lett ?_))));have hc:=cap_ok (rNum p 8 r).1;rw[show (if (1099511627777:Int)<((rNum p 8 r).1:Int) then (1099511627777:Int) else ((rNum p 8 r).1:Int))=cap (rNum p 8 r).1 from rfl];rw[newP_eq h5,hA];refine ye (by omega) (by omega) (Wp.obind (idxFour hi) (Wp.st1 kA3 (by omega) rfl fun h4 k4 t4 n4=>ye (by omega) (by omega) ?_));rw[show (i:Int)+1=((i+1:Nat):Int) by omega];refine h2 h4 k4 (k3.tch t4 (by omega) (fun h=>hne (List.mem_singleton.1 h).symm)) ((t3.mono fun b hb=>.inl ?_).trans (t4.mono fun b hb=>.inl ?_))
 ·rw [List.mem_singleton.1 hb]
  exact List.mem_cons_self ..
 ·exact List.mem_cons_of_mem _ hb
theorem bldSnd(a b c e:Int)(s:Bytes):bldS Try.prog TTk [(0,.int .i64 a),(1,.agg ([.int .i64 b,.int .i64 c]:List AV)),(2,.int .i64 e),(3,strA s)]=some [.int .i64 a,.int .i64 b,.int .i64 c,.int .i64 e,strA s]:=by kernel_rfl
set_option maxHeartbeats 1000000 in
theorem sendOf_w(hp:p.length≤1000000)(hn:4096<n):world n (d+6) 46 [strA p] h=some (.ret (.tup [.agg (sndC ((rdS p).getD z0)),.bool (rdS p).isSome]),h):=by
 apply Wp.eq;rw[w_journal_sendOf];refine y3d ?_;unfold journal_sendOf;refine y11 (Mem.nil [] h) fun h2 M2=>?_;have l2:=M2.at0.2.1;obtain⟨h5,e5,k5,l5,t5⟩:=new_r (n:=n) (d:=d+4) p h2;have n5:=t5.1;refine Wp.callN e5 (y11 (Mem.nil [] h5) fun h8 M8=>y8 fun k13 e13=>?_);have t8:=M8.tch;have n8:=t8.1;have k8:=k5.tch t8 l5 (fun h=>nomatch h);have kA:=M8.at0.1;have lA:=M8.at0.2.1;have ky8:=(M2.at0.1.tch t5 l2 (fun h=>nomatch h)).tch t8 (by omega) (fun h=>nomatch h);have T8:=(M2.tch.trans t5).trans t8;have ok0:RS.ok p ⟨0,0,0⟩:=Nat.zero_le _;obtain⟨m,hm⟩:∃m,n=m+5:=⟨n - 5,by omega⟩
 have hfu:∀Q:ARes→AHeap→Prop,Wp (journal_sendOf_L0 (world n (d+5)) (.ptr h2.next 0) h5 k13 (m+4+1) ((0:Nat):Int) h8) Q→Wp (journal_sendOf_L0 (world n (d+5)) (.ptr h2.next 0) h5 k13 n 0 h8) Q:=fun Q hw=>by
  rw[show journal_sendOf_L0 (world n (d+5)) (.ptr h2.next 0) h5 k13 n 0 h8=journal_sendOf_L0 (world n (d+5)) (.ptr h2.next 0) h5 k13 (m+4+1) ((0:Nat):Int) h8 from by rw[show m+4+1=n by omega];rfl];exact hw
 refine hfu _ (snd_iter (d:=d+2) (A:=h5.next) (i:=0) (fu:=m+4) rfl (by omega) hp (by decide) rfl kA lA k8 ok0 (by omega) (by omega) fun h9 kA9 k9 t9=>?_);have n9:=t9.1;refine snd_iter (d:=d+2) (A:=h5.next) (i:=1) (fu:=m+3) rfl (by omega) hp (by decide) rfl kA9 (by omega) k9 (rNum_ok ok0) (by omega) (by omega) fun h10 kA10 k10 t10=>?_;have n10:=t10.1;refine snd_iter (d:=d+2) (A:=h5.next) (i:=2) (fu:=m+2) rfl (by omega) hp (by decide) rfl kA10 (by omega) k10 (rNum_ok (rNum_ok ok0)) (by omega) (by omega) fun h11 kA11 k11 t11=>?_;have n11:=t11.1;refine snd_iter (d:=d+2) (A:=h5.next) (i:=3) (fu:=m+1) rfl (by omega) hp (by decide) rfl kA11 (by omega) k11 (rNum_ok (rNum_ok (rNum_ok ok0))) (by omega) (by omega) fun h12 kA12 k12 t12=>?_;have n12:=t12.1;have t812:=((t9.trans t10).trans t11).trans t12
 have hrb:∀b∈[h2.next,h5.next],h.next≤b:=fun b hb=>by
  have:=M2.tch.1
  rcases List.mem_cons.1 hb with rfl|hb
  ·exact this
  ·rw [List.mem_singleton.1 hb]
   omega
 have T12:=T8.trans' t812 fun b hb=>.inr (hrb b hb)
 have ky12:=ky8.tch t812 (by omega) (fun hb=>by
  rcases List.mem_cons.1 hb with hb|hb
  ·omega
  ·have := List.mem_singleton.1 hb
   omega)
 have kA12:RowH h12 h5.next TFour [.int .i64 (cap (rd1 p).1),.int .i64 (cap (rd2 p).1),.int .i64 (cap (rd3 p).1),.int .i64 (cap (rd4 p).1)]:=kA12;have k12:PR h12 h2.next p (rd4 p).2:=k12;rw[journal_sendOf_L0_s];unfold journal_sendOf_L0b;refine Wp.lett (y7 rfl ?_);rw[e13,newP_eq h5,newP_eq h];obtain⟨h14,e14,k14,t14⟩:=text_r (n:=n) (d:=d) k12 (rNum_ok (rNum_ok (rNum_ok (rNum_ok ok0)))) (by omega) (by omega) (most:=64) (M:=64) rfl;have n14:=t14.1;have kA14:=kA12.tch t14 (by omega) (fun h=>by have:=List.mem_singleton.1 h;omega);have ky14:=ky12.tch t14 (by omega) (fun h=>by have:=List.mem_singleton.1 h;omega);have i0:idxA 4 1 (.ptr h5.next 0) 0=some (.ptr h5.next 0):=rfl;have i1:idxA 4 1 (.ptr h5.next 0) 1=some (.ptr h5.next 1):=rfl;have i2:idxA 4 1 (.ptr h5.next 0) 2=some (.ptr h5.next 2):=rfl;have i3:idxA 4 1 (.ptr h5.next 0) 3=some (.ptr h5.next 3):=rfl;refine Wp.obind i0 (Wp.obind (y5 kA12 rfl) (Wp.obind (avInt_int _ _) (Wp.obind i1 (Wp.obind (y5 kA12 rfl) (Wp.obind (avInt_int _ _) (Wp.obind i2 (Wp.obind (y5 kA12 rfl) (Wp.obind (avInt_int _ _) (Wp.obind i3 (Wp.obind (y5 kA12 rfl) (Wp.obind (avInt_int _ _) (Wp.callN e14 (Wp.obind (avStr_str _) (Wp.chk (and_t (reLoad_c (by kernel_rfl) (y5 kA14 rfl)) (and_t (reLoad_c (by kernel_rfl) (y5 kA14 rfl)) (and_t (reLoad_c (by kernel_rfl) (y5 kA14 rfl)) (and_t (reLoad_c (by kernel_rfl) (y5 kA14 rfl)) rfl)))) (Wp.obind (bldSnd _ _ _ _ _) (Wp.stAll ky14 rfl rfl rfl fun h15 ky15 t15 n15=>?_))))))))))))))));have k15:=k14.tch t15 (by omega) (fun h=>by have:=List.mem_singleton.1 h;omega);obtain⟨h16,e16,t16⟩:=end_r (n:=n) (d:=d+3) k15 (by omega);have n16:=t16.1;have ky16:RowH h16 h.next TTk (sndC (rdX p)):=ky15.tch t16 (by omega) (fun h=>nomatch h);have T16:Tch [] h h16:=((T12.trans' t14 fun b hb=>.inr (by rw[List.mem_singleton.1 hb];have:=M2.tch.1;omega)).trans' t15 fun b hb=>.inr (by rw[List.mem_singleton.1 hb];exact Nat.le_refl _)).trans t16;refine Wp.callN e16 (Wp.obind (avAgg_agg _) (Wp.obind (show partF 0 _=some (AV.int .i64 _) from rfl) (Wp.obind (avInt_int _ _) (Wp.lett (y8 fun j39 e39=>?_)))))
 have hT:(rdT p).1.length≤p.length:=by
  unfold rdT rText
  split
  ·exact Nat.zero_le _
  ·split
   ·exact Nat.zero_le _
   ·split
    ·exact Nat.zero_le _
    ·show (List.take _ (List.drop _ p)).length ≤ _
     rw[List.length_take,List.length_drop];omega
 have bad:rdS p=none→Wp (j39 true h16) fun r h'=>Above h h'∧r.val.scal=true∧r=ARes.ret (.tup [.agg (sndC ((rdS p).getD z0)),.bool (rdS p).isSome])∧h=h:=fun hr=>by
  rw[e39,hr];refine yc rfl (Wp.stAll ky16 rfl rfl rfl fun h20 k20 t20 n20=>Wp.obind (RowH.ldAll k20 rfl) (Wp.ret ⟨(T16.trans' t20 fun b hb=>.inr (by rw[List.mem_singleton.1 hb];exact Nat.le_refl _)).above,rfl,rfl,rfl⟩))
 by_cases hE:(rEnd p (rdT p).2).1=0
 case neg=>
  have hr:rdS p=none:=if_neg (fun hh=>hE hh.1);exact yc (bne_t hE) (bad hr)
 have hck:=check_w (n:=n) (d:=d+3) (x:=rdX p) (H:=h16) (by omega) (by show (rdT p).1.length≤_;omega);refine y7 (bne_f hE) (Wp.obind (ky16.ldAll rfl) (Wp.callN hck (Wp.obind (avInt_int _ _) (Wp.lett ?_))))
 by_cases hC:checkJ (rdX p)=0
 case neg=>
  have hr:rdS p=none:=if_neg (fun hh=>hC hh.2);rw[bne_t hC];exact bad hr
 have hr:rdS p=some (rdX p):=if_pos ⟨hE,hC⟩;rw[bne_f hC,e39,hr];refine y7 rfl (Wp.obind (ky16.ldAll rfl) (Wp.stAll ky16 rfl rfl rfl fun h20 k20 t20 n20=>Wp.obind (RowH.ldAll k20 rfl) (Wp.ret ⟨(T16.trans' t20 fun b hb=>.inr (by rw[List.mem_singleton.1 hb];exact Nat.le_refl _)).above,rfl,rfl,rfl⟩)))
end
open Go.RowKit Abs
abbrev TPJ:Nat:=67
theorem lastZ_bound{L:List Snd}(hok:∀x∈L,checkJ x=0)(k:Int): -1≤(lastZ L k).q∧(lastZ L k).q <9223372036854775806:=by
 unfold lastZ;cases h:lastL L k with
 |none=>exact⟨by decide,by decide⟩
 |some x=>
  rcases lastL_mem L k none x h with h|h
  ·obtain ⟨⟨_, _, _, h1, h2⟩, _⟩ := checkJ_ok (hok x h)
   show -1≤x.q∧x.q<_;omega
  ·cases h
theorem stepJ_some{L:List Snd}{p:Bytes}{x:Snd}(h:stepJ L p=some x):rdS p=some x∧refJ L x=0:=by
 unfold stepJ at h;cases hr:rdS p with
 |none=>rw[hr,Option.bind_none] at h;cases h
 |some y=>
  rw[hr,Option.bind_some] at h
  split at h
  ·rename_i h2
   cases h;exact⟨rfl,h2⟩
  ·cases h
theorem stepJ_none{L:List Snd}{p:Bytes}(h:stepJ L p=none):∀x,rdS p=some x→refJ L x≠0:=fun x hr h2=>by
 unfold stepJ at h;rw[hr,Option.bind_some,if_pos h2] at h;cases h
section
variable {nb nb':Nat→Prop}{n d D jb db y:Nat}{H:AHeap}{p u:Bytes}{br:Int}{L:List Snd}{Q:ARes→AHeap→Prop}
theorem JAt.mono(J:JAt nb H jb db L br)(h:∀b,nb b→nb' b):JAt nb' H jb db L br:=by
 obtain⟨sv,mb,ml,D,n1,n2,n3⟩:=J;exact⟨sv,mb,ml,D,h _ n1,h _ n2,fun b hb=>h b (n3 b hb)⟩
set_option maxHeartbeats 1000000 in
theorem read_round{jx gx lo i:Nat}{g:Int}{t0:T AV}{Dm:Nat}(hrec:H.get y=some (recQ .ready .none (journal_Journal_read_R0 n).N (journal_Journal_read_R0 n).c t0 Dm))(hy:y<lo)(hlo:lo≤H.next)(kj:RowH H jx TPJ [.ptr jb 0])(hjx:jx<lo)(kg:RowH H gx TIn [.int .i64 g])(hgx:gx<lo)(J:JAt nb H jb db L br)(hnb:∀b,lo≤b→nb b)(ng:¬nb gx)(ny:¬nb y)(hok:∀x∈L,checkJ x=0)(hx:H.ex=[])(hl:L.length<10000000)(hp:p.length≤4096)(hi:i<2000000000)(hn:4096<n)(hg:((putPs (journal_Journal_read_R0 n).N (y16 (journal_Journal_read_R0 n).c).toList [.int .i64 (i:Int),strA p] t0).bind fun t=>slotsC t (journal_Journal_read_R0 n).sa)=some [.ptr jx 0,.ptr gx 0,.int .i64 (i:Int),strA p]):
  ∃H' j g',wL n (D+6) (d+2) true y [.int .i64 (i:Int),strA p] H=some (.ret (.bool (stepJ L p).isSome),H')∧RowH H' gx TIn [.int .i64 g']∧JAt nb H' jb db (match stepJ L p with|some x=>L++[x]|none=>L) br∧H'.get y=some (recQ (stZ j) j (journal_Journal_read_R0 n).N (journal_Journal_read_R0 n).c t0 Dm)∧H.next≤H'.next∧H'.ex=H.ex∧(∀b,b<lo→b≠gx→b≠y→¬nb b→H'.get b=H.get b)∧(stepJ L p≠none→j=.none∧g'=((i+(p.length+12):Nat):Int))∧(stepJ L p=none→j=.exit 0∧g'=g):=by
 have ncg:=recS_ne kg hrec;have ncj:=recS_ne kj hrec;have ll:=lenS_nat p;obtain⟨G,hG⟩:∃G:Int→AHeap→Prop,G=fun z H'=>(jumpZ z).isNone=(stepJ L p).isSome∧∃g',RowH H' gx TIn [.int .i64 g']∧JAt nb H' jb db (match stepJ L p with|some x=>L++[x]|none=>L) br∧H'.get y=some (recQ (stZ (jumpZ z)) (jumpZ z) (journal_Journal_read_R0 n).N (journal_Journal_read_R0 n).c t0 Dm)∧H.next≤H'.next∧H'.ex=H.ex∧(∀b,b<lo→b≠gx→b≠y→¬nb b→H'.get b=H.get b)∧(stepJ L p≠none→jumpZ z=.none∧g'=((i+(p.length+12):Nat):Int))∧(stepJ L p=none→jumpZ z=.exit 0∧g'=g):=⟨_,rfl⟩;have key:=round_W (both:=wL n (D+6) (d+1)) (sites:=wLS n) (G:=G) hrec (fun st jj=>wLS_journal_Journal_read_R0 n st jj t0 Dm) hg ?_
 ·obtain ⟨z, H', e, hk⟩ := key
  rw[hG] at hk;obtain⟨hz,g',k1⟩:=hk;rw[wL_r];rw[hz] at e;exact⟨H',jumpZ z,g',e,k1⟩
 ·show Wp (journal_Journal_read_R0A_fn (wL n (D + 6) (d + 1)) n [.ptr jx 0, .ptr gx 0, .int .i64 (i : Int), strA p] H) _
  rw[journal_Journal_read_R0A_fn_eq];unfold journal_Journal_read_R0A;refine Wp.ret ⟨_,rfl,rfl,by kernel_rfl,?_⟩;have tp:∀(G:AHeap) (o:AObj),Tch [y] G (G.put y o):=fun G o=>Tch.put (.inl (List.mem_singleton.2 rfl)) _;have m1:∀{a b:Nat},a≠b→a ∉ [b]:=fun h h2=>h (List.mem_singleton.1 h2)
  have sy:∀b∈[y],¬nb b:=fun b hb=>by
   rw[List.mem_singleton.1 hb];exact ny
  have sg:∀b∈[gx],¬nb b:=fun b hb=>by
   rw[List.mem_singleton.1 hb];exact ng
  obtain⟨H1,hH1⟩:∃H1,H1=H.put y (recQ .busy .none (journal_Journal_read_R0 n).N (journal_Journal_read_R0 n).c t0 Dm):=⟨_,rfl⟩;have t1:Tch [y] H H1:=by rw[hH1];exact tp H _
  have g1:H1.get y=some (recQ .busy .none (journal_Journal_read_R0 n).N (journal_Journal_read_R0 n).c t0 Dm):=by rw[hH1];exact get_put_same _ _
  have n1:H1.next=H.next:=by rw[hH1];rfl
  have x1:H1.ex=[]:=by rw[hH1];exact hx
  have kg1:=kg.tch t1 (by omega) (m1 ncg);have kj1:=kj.tch t1 (by omega) (m1 ncj);have J1:=J.tch t1 sy;rw[←hH1];show Wp (journal_Journal_read_R0B_fn (wL n (D+6) (d+1)) n [.ptr jx 0,.ptr gx 0,.int .i64 (i:Int),strA p] H1) _;rw[journal_Journal_read_R0B_fn_eq];unfold journal_Journal_read_R0B;refine Wp.callN ((wL_b 46).trans (sendOf_w (n:=n) (d:=D) (by omega) hn)) (Wp.obind (extT_0 _ _) (Wp.obind (avAgg_agg _) (Wp.obind (extT_1 _ _ _) (Wp.obind (avBool_bool _) (y11 (Mem.nil [] H1) fun h2 M2=>?_)))));rw[newP_eq];refine y1a M2 rfl rfl (snd_one _) fun h3 M3=>Wp.lett (y8 fun j26 e26=>?_);have t3:=M3.tch;have n3:=t3.1;have kg3:=kg1.tch t3 (by omega) (fun h=>nomatch h);have kj3:=kj1.tch t3 (by omega) (fun h=>nomatch h);have J3:=J1.tch t3 (fun _ h=>nomatch h);have g3:h3.get y=some (recQ .busy .none (journal_Journal_read_R0 n).N (journal_Journal_read_R0 n).c t0 Dm):=by rw[t3.2.2 y (by omega) (fun h=>nomatch h)];exact g1
  have bad:∀h4,Tch [] h3 h4→stepJ L p=none→Wp (j26 true h4) fun r H'=>∃z,r=.ret (.int .i64 z)∧H'.get y=some (recQ .busy .none (journal_Journal_read_R0 n).N (journal_Journal_read_R0 n).c t0 Dm)∧G z (H'.put y (recQ (stZ (jumpZ z)) (jumpZ z) (journal_Journal_read_R0 n).N (journal_Journal_read_R0 n).c t0 Dm)):=fun h4 t4 hs=>by
   have n4:=t4.1;rw[e26];refine yc rfl (Wp.ret ⟨2,rfl,?_,?_⟩)
   ·rw [t4.2.2 y (by omega) (fun h => nomatch h)]
    exact g3
   rw[hG];dsimp only;rw[hs];have J4:=J3.tch t4 (fun _ h=>nomatch h);have kg4:=kg3.tch t4 (by omega) (fun h=>nomatch h);refine⟨rfl,g,kg4.tch (tp _ _) (by omega) (m1 ncg),J4.tch (tp _ _) sy,get_put_same _ _,?_,?_,?_,fun h=>absurd rfl h,fun _=>⟨rfl,rfl⟩⟩
   ·show H.next ≤ h4.next
    omega
   ·show h4.ex = H.ex
    rw[t4.2.1,t3.2.1,x1,hx]
   ·intro b hb h1 h2 h3'
    rw[get_put_other _ (fun h=>h2 h.symm),t4.2.2 b (by omega) (fun h=>nomatch h),t3.2.2 b (by omega) (fun h=>nomatch h),t1.2.2 b (by omega) (m1 h2)]
  cases hr:rdS p with
  |none=>
   refine yc rfl (bad h3 (Tch.refl _ _) ?_);unfold stepJ;rw[hr];rfl
  |some x=>
   have M3':Mem [] H1 h3 [(H1.next,TTk,sndC x)]:=by
    rw[hr] at M3;exact M3
   obtain⟨h4,e4,t4⟩:=jref_w (n:=n) (d:=D+4) (x:=x) J3 (lastZ_bound hok x.k);have n4:=t4.1;refine y7 rfl (Wp.obind (y5 kj3 rfl) (y32 M3' rfl (Wp.callN ((wL_b 47).trans e4) (Wp.obind (avInt_int _ _) (Wp.lett ?_)))))
   by_cases href:refJ L x=0
   case neg=>
    rw[bne_t href];refine bad h4 t4 ?_;unfold stepJ;rw[hr,Option.bind_some,if_neg href]
   have hs:stepJ L p=some x:=by
    unfold stepJ;rw[hr,Option.bind_some,if_pos href]
   rw[bne_f href,e26];have kj4:=kj3.tch t4 (by omega) (fun h=>nomatch h);have kg4:=kg3.tch t4 (by omega) (fun h=>nomatch h);have l3:=M3'.at0.2.1;have kb4:=M3'.at0.1.tch t4 l3 (fun h=>nomatch h);have J4:=J3.tch t4 (fun _ h=>nomatch h);have g4:h4.get y=some (recQ .busy .none (journal_Journal_read_R0 n).N (journal_Journal_read_R0 n).c t0 Dm):=by rw[t4.2.2 y (by omega) (fun h=>nomatch h)];exact g3
   obtain⟨h5,S5,e5,J5,t5,hS5⟩:=jput_w (n:=n) (d:=D+5) (x:=x) J4 (by rw[t4.2.1,t3.2.1,x1]) hl;have n5:=t5.1;have kg5:=kg4.tch t5 (by omega) (fun h=>ng (hS5 _ h));refine y7 rfl (Wp.obind (y5 kj4 rfl) (Wp.obind (kb4.ldAll rfl) (Wp.callN ((wL_b 48).trans e5) (ye (by omega) (by omega) (ye (by omega) (by omega) (Wp.st1 kg5 (show 0<1 by decide) rfl fun h6 kg6 t6 n6=>Wp.ret ⟨0,rfl,?_,?_⟩))))))
   ·rw [t6.2.2 y (by omega) (m1 (fun h => ncg h.symm)), t5.2.2 y (by omega) (fun h => ny (hS5 _ h))]
    exact g4
   rw[hG];dsimp only;rw[hs];have J6:JAt nb h6 jb db (L++[x]) br:=(J5.mono fun b hb=>hb.elim id fun h=>hnb b (by omega)).tch t6 sg;refine⟨rfl,((i+(p.length+12):Nat):Int),?_,J6.tch (tp _ _) sy,get_put_same _ _,?_,?_,?_,fun _=>⟨rfl,rfl⟩,fun h=>nomatch h⟩
   ·have := kg6.tch (tp _ (recQ (stZ (jumpZ 0)) (jumpZ 0) (journal_Journal_read_R0 n).N (journal_Journal_read_R0 n).c t0 Dm)) (by omega) (m1 ncg)
    rw[show (i:Int)+lenS p+12=((i+(p.length+12):Nat):Int) by omega] at this;exact this
   ·show H.next ≤ h6.next
    omega
   ·show h6.ex = H.ex
    rw[t6.2.1,t5.2.1,t4.2.1,t3.2.1,x1,hx]
   ·intro b hb h1 h2 h3'
    rw[get_put_other _ (fun h=>h2 h.symm),t6.2.2 b (by omega) (m1 h1),t5.2.2 b (by omega) (fun h=>h3' (hS5 _ h)),t4.2.2 b (by omega) (fun h=>nomatch h),t3.2.2 b (by omega) (fun h=>nomatch h),t1.2.2 b (by omega) (m1 h2)]
end
theorem jstep_at{s:Bytes}{i:Nat}{L:List Snd}(he:(takeR (s.drop i)).2.2=0)(h1:readJ L (scanR (s.drop i)).1=readJ [] (scanR s).1)(h2:i+goodJ L (scanR (s.drop i)).1=goodJ [] (scanR s).1)(hl:(takeR (s.drop i)).2.1=(takeR (s.drop i)).1.length+12):
  match stepJ L (takeR (s.drop i)).1 with
  |some x=>readJ (L++[x]) (scanR (s.drop (i+(takeR (s.drop i)).2.1))).1=readJ [] (scanR s).1∧i+(takeR (s.drop i)).2.1+goodJ (L++[x]) (scanR (s.drop (i+(takeR (s.drop i)).2.1))).1=goodJ [] (scanR s).1
  |none=>L=readJ [] (scanR s).1∧i=goodJ [] (scanR s).1:=by
 rw[scanR_ok he,List.drop_drop] at h1 h2;dsimp only at h1 h2;cases hs:stepJ L (takeR (s.drop i)).1 with
 |none=>
  obtain⟨b1,b2⟩:=readJ_bad (ps:=(scanR (s.drop (i+(takeR (s.drop i)).2.1))).1) (stepJ_none hs);rw[b1] at h1;rw[b2] at h2;exact⟨h1,by omega⟩
 |some x=>
  obtain⟨hr,hf⟩:=stepJ_some hs;obtain⟨b1,b2⟩:=readJ_some (ps:=(scanR (s.drop (i+(takeR (s.drop i)).2.1))).1) hr hf;rw[b1] at h1;rw[b2] at h2;exact⟨h1,by omega⟩
theorem jend_at{s:Bytes}{i:Nat}{L:List Snd}(he:(takeR (s.drop i)).2.2≠0)(h1:readJ L (scanR (s.drop i)).1=readJ [] (scanR s).1)(h2:i+goodJ L (scanR (s.drop i)).1=goodJ [] (scanR s).1):L=readJ [] (scanR s).1∧i=goodJ [] (scanR s).1:=by
 rw[scanR_bad he] at h1 h2;exact⟨h1,h2⟩
section
variable {n d D jb db mb:Nat}{H:AHeap}{u:Bytes}
set_option maxHeartbeats 2000000 in
theorem jread_w(D0:JD H jb db .nsl mb [] [] 0)(hx:H.ex=[])(hu:u.length<5000000)(hn:1000000000<n):
  ∃H',wL n (D+6) (d+5) false 33 [.ptr jb 0,strA u] H=some (.ret (.int .i64 ((goodJ [] (scanR u).1:Nat):Int)),H')∧JAt (fun b=>b=jb∨b=mb∨H.next≤b) H' jb db (readJ [] (scanR u).1) 0∧Tch [jb,mb] H H':=by
 suffices hK:Wp (journal_Journal_read (wL n (D+6) (d+4)) n (.ptr jb 0) u H) fun r H'=>r=.ret (.int .i64 ((goodJ [] (scanR u).1:Nat):Int))∧JAt (fun b=>b=jb∨b=mb∨H.next≤b) H' jb db (readJ [] (scanR u).1) 0∧Tch [jb,mb] H H' by
  obtain⟨_,H',e,rfl,k⟩:=hK;exact⟨H',wL_journal_Journal_read n (D+6) (d+4) _ _ e,k⟩
 have hjb:=D0.hjb;have hmb:=D0.hmb;unfold journal_Journal_read;refine Wp.outK (v:=.ptr H.next 0) (h1:=newH H TPJ [.ptr jb 0]) (by rfl) ?_;obtain⟨h2,hh2⟩:∃h2,h2=newH H TPJ [.ptr jb 0]:=⟨_,rfl⟩;have kv2:RowH h2 H.next TPJ [.ptr jb 0]:=by rw[hh2];exact RowH.new _ _ _
 have lv2:H.next<h2.next:=by rw[hh2];exact lt_newH _ _ _
 have t2:Tch [] H h2:=by rw[hh2];exact Tch.newH _ _ _ _
 rw[←hh2];refine y11 (Mem.nil [] h2) fun h5 M5=>?_;rw[newP_eq h2];refine y1a M5 rfl rfl rfl fun h7 M7=>?_;have t7:=M7.tch;have n7:=t7.1;have kg7:=M7.at0.1;have lg7:=M7.at0.2.1;obtain⟨h8,e8,kx8,lx8,t8⟩:=fall_w (n:=n) (d:=D+5) u h7;have n8:=t8.1;have kv8:=(kv2.tch t7 lv2 (fun h=>nomatch h)).tch t8 (by omega) (fun h=>nomatch h);have kg8:=kg7.tch t8 lg7 (fun h=>nomatch h);refine Wp.callN ((wL_b 45).trans e8) (y8 fun k14 e14=>?_);obtain⟨t0,ht0⟩:∃t0,t0=Fr.tree [(2,.ptr H.next 0),(4,.int .i64 0),(5,.ptr h2.next 0),(11,AV.fn 57 [] [.ptr h7.next 0])]:=⟨_,rfl⟩
 have hg:∀(i:Nat) (q:Bytes),((putPs (journal_Journal_read_R0 n).N (y16 (journal_Journal_read_R0 n).c).toList [.int .i64 (i:Int),strA q] t0).bind fun t=>slotsC t (journal_Journal_read_R0 n).sa)=some [.ptr H.next 0,.ptr h2.next 0,.int .i64 (i:Int),strA q]:=fun i q=>by
  rw[ht0]
  kernel_rfl
 rw[←ht0];have t1:=rngH_tch [] (journal_Journal_read_R0 n).N (journal_Journal_read_R0 n).c t0 h8;have n1:=rngH_next (journal_Journal_read_R0 n).N (journal_Journal_read_R0 n).c t0 h8;have r1:=rngH_rec (journal_Journal_read_R0 n).N (journal_Journal_read_R0 n).c t0 h8;have d1:=rngH_mark (journal_Journal_read_R0 n).N (journal_Journal_read_R0 n).c t0 h8;obtain⟨Hs,hHs⟩:∃Hs,Hs=rngH (journal_Journal_read_R0 n).N (journal_Journal_read_R0 n).c t0 h8:=⟨_,rfl⟩;rw[←hHs] at t1 n1 r1 d1;have T1:Tch [] H Hs:=((t2.trans t7).trans t8).trans t1;have x1:Hs.ex=[]:=by rw[T1.2.1,hx]
 have kv1:=kv8.tch t1 (by omega) (fun h=>nomatch h);have kg1:=kg8.tch t1 (by omega) (fun h=>nomatch h);have kx1:=kx8.tch t1 lx8 (fun h=>nomatch h);obtain⟨nb,hnb⟩:∃nb:Nat→Prop,nb=fun b=>b=jb∨b=mb∨Hs.next≤b:=⟨_,rfl⟩;have hnb1:∀b,Hs.next≤b→nb b:=fun b hb=>by rw[hnb];exact .inr (.inr hb)
 have hnb2:∀b,H.next≤b→b<Hs.next→¬nb b:=fun b h1 h2 h3=>by
  rw[hnb] at h3
  rcases h3 with h3|h3|h3<;>omega
 have J1:JAt nb Hs jb db [] 0:=JAt.tch ⟨.nsl,mb,[],D0,by rw[hnb];exact .inl rfl,by rw[hnb];exact .inr (.inl rfl),(fun _ h=>nomatch h)⟩ T1 (fun _ h=>nomatch h)
 obtain⟨H',e,hq⟩:=fall_iter (n:=n) (D:=D+1) (d:=d+2) (H:=Hs) (y:=h8.next+1) (bx:=h7.next) (s:=u)
  (Inv:=fun i H2=>∃L,RowH H2 h2.next TIn [.int .i64 (i:Int)]∧JAt nb H2 jb db L 0∧(∀x∈L,checkJ x=0)∧L.length≤i∧H2.get (h8.next+1)=some (recQ .ready .none (journal_Journal_read_R0 n).N (journal_Journal_read_R0 n).c t0 h8.next)∧Hs.next≤H2.next∧H2.ex=[]∧(∀b,b<Hs.next→b≠h2.next→b≠h8.next+1→¬nb b→H2.get b=Hs.get b)∧readJ L (scanR (u.drop i)).1=readJ [] (scanR u).1∧i+goodJ L (scanR (u.drop i)).1=goodJ [] (scanR u).1)
  (Fin:=fun _ H2=>∃L i,RowH H2 h2.next TIn [.int .i64 ((i:Nat):Int)]∧JAt nb H2 jb db L 0∧H2.get (h8.next+1)=some (recQ .done (.exit 0) (journal_Journal_read_R0 n).N (journal_Journal_read_R0 n).c t0 h8.next)∧Hs.next≤H2.next∧H2.ex=[]∧(∀b,b<Hs.next→b≠h2.next→b≠h8.next+1→¬nb b→H2.get b=Hs.get b)∧L=readJ [] (scanR u).1∧i=goodJ [] (scanR u).1) (by omega) hn
  (fun i H2 I => by
   obtain⟨L,_,_,_,_,_,_,_,k6,_⟩:=I;exact kx1.same (k6 _ (by omega) (by omega) (by omega) (hnb2 _ (by omega) (by omega))))
  (fun i H2 hi he I => by
   obtain⟨L,a1,a2,a3,a0,a4,a5,a6,a7,a8,a9⟩:=I;have hl:=takeR_len he;rw[List.length_drop] at hl;have hst:=jstep_at he a8 a9 (by omega);have kv:=kv1.same (a7 H.next (by omega) (by omega) (by omega) (hnb2 _ (by omega) (by omega)));obtain⟨H3,j,g',e3,b1,b2,b3,b4,b5,b6,b7,b8⟩:=read_round (n:=n) (D:=D) (d:=d+1) (y:=h8.next+1) (p:=(takeR (u.drop i)).1) a4 (by omega) a5 kv (by omega) a1 (by omega) a2 hnb1 (hnb2 _ (by omega) (by omega)) (hnb2 _ (by omega) (by omega)) a3 a6 (by omega) (by omega) (by omega) (by omega) (hg i _);refine⟨(stepJ L (takeR (u.drop i)).1).isSome,H3,?_,fun hb=>?_,fun hb=>?_⟩
   ·rw [dynB_yld a4 (by kernel_rfl)]
    exact e3
   ·cases hrd : stepJ L (takeR (u.drop i)).1 with
    |none=>rw[hrd] at hb;cases hb
    |some x=>
     rw[hrd] at b2 hst;obtain⟨hj,hg'⟩:=b7 (by rw[hrd];exact fun h=>nomatch h);subst hj hg';refine⟨L++[x],?_,b2,fun z hz=>?_,?_,b3,by omega,by rw[b5,a6],fun b g1 g2 g3 g4=>(b6 b g1 g2 g3 g4).trans (a7 b g1 g2 g3 g4),hst.1,hst.2⟩
     ·rw [show i + (takeR (u.drop i)).2.1 = i + ((takeR (u.drop i)).1.length + 12) by omega]
      exact b1
     ·rcases List.mem_append.1 hz with hz | hz
      ·exact a3 z hz
      ·rw [List.mem_singleton.1 hz]
       exact(rdS_ok (stepJ_some hrd).1).1
     ·rw [List.length_append, List.length_singleton]
      omega
   ·cases hrd : stepJ L (takeR (u.drop i)).1 with
    |some x=>rw[hrd] at hb;cases hb
    |none=>
     rw[hrd] at b2 hst;obtain⟨hj,hg'⟩:=b8 hrd;subst hj hg';exact⟨L,i,b1,b2,b3,by omega,by rw[b5,a6],fun b g1 g2 g3 g4=>(b6 b g1 g2 g3 g4).trans (a7 b g1 g2 g3 g4),hst.1,hst.2⟩)
  ⟨[],kg1,J1,(fun _ h=>nomatch h),Nat.le_refl _,r1,Nat.le_refl _,x1,fun _ _ _ _ _=>rfl,rfl,Nat.zero_add _⟩
 rw[hHs] at e;have m1:∀{a b:Nat},a≠b→a ∉ [b]:=fun h h2=>h (List.mem_singleton.1 h2)
 have fin:∀(st:LoopState) (j:AJump),RowH H' h2.next TIn [.int .i64 ((goodJ [] (scanR u).1:Nat):Int)]→JAt nb H' jb db (readJ [] (scanR u).1) 0→Hs.next≤H'.next→H'.ex=[]→(∀b,b<Hs.next→b≠h2.next→b≠h8.next+1→¬nb b→H'.get b=Hs.get b)→
   Wp (k14 [dmark h8.next] (H'.put (h8.next+1) (recQ st j (journal_Journal_read_R0 n).N (journal_Journal_read_R0 n).c t0 h8.next))) fun r H'=>r=.ret (.int .i64 ((goodJ [] (scanR u).1:Nat):Int))∧JAt (fun b=>b=jb∨b=mb∨H.next≤b) H' jb db (readJ [] (scanR u).1) 0∧Tch [jb,mb] H H':=fun st j a1 a3 a5 a6 a7=>by
  have tp:∀(G:AHeap) (b:Nat) (o:AObj),Tch [b] G (G.put b o):=fun G b o=>Tch.put (.inl (List.mem_singleton.2 rfl)) _;have t9:=tp H' (h8.next+1) (recQ st j (journal_Journal_read_R0 n).N (journal_Journal_read_R0 n).c t0 h8.next);have kg9:=a1.tch t9 (by omega) (m1 (by omega));have J9:=a3.tch t9 (fun b hb=>by rw[List.mem_singleton.1 hb];exact hnb2 _ (by omega) (by omega))
  have hm:(H'.put (h8.next+1) (recQ st j (journal_Journal_read_R0 n).N (journal_Journal_read_R0 n).c t0 h8.next)).get h8.next=some (.obj .dfr):=by
   rw[get_put_other _ (by omega),a7 _ (by omega) (by omega) (by omega) (hnb2 _ (by omega) (by omega))];exact d1
  rw[e14];refine Wp.obind (y5 kg9 rfl) (Wp.obind (avInt_int _ _) (y3f hm (y2e (Wp.ret ⟨rfl,?_,?_,?_,fun b hb hb2=>?_⟩))))
  ·refine (J9.tch (tp _ h8.next (.obj .shut)) (fun b hb => by rw [List.mem_singleton.1 hb]; exact hnb2 _ (by omega) (by omega))).mono fun b hb => ?_
   rw[hnb] at hb
   rcases hb with hb|hb|hb
   ·exact .inl hb
   ·exact .inr (.inl hb)
   ·exact .inr (.inr (by omega))
  ·show H.next ≤ H'.next
   omega
  ·show H'.ex = H.ex
   rw[a6,hx]
  ·have hnb3 : ¬ nb b := fun hh => by
    rw[hnb] at hh
    rcases hh with hh|hh|hh
    ·exact hb2 (by rw[hh];exact List.mem_cons_self ..)
    ·exact hb2 (by rw[hh];exact List.mem_cons_of_mem _ (List.mem_cons_self ..))
    ·omega
   rw[get_put_other _ (by omega),get_put_other _ (by omega),a7 _ (by omega) (by omega) (by omega) hnb3];exact T1.2.2 b hb (fun h=>nomatch h)
 rcases hq with⟨i,hi,he,L,a1,a2,a3,a0,a4,a5,a6,a7,a8,a9⟩|⟨_,hi,he,L,i,a1,a3,a4,a5,a6,a7,a8,a9⟩
 ·obtain ⟨c1, c2⟩ := jend_at he a8 a9
  rw[c2] at a1;rw[c1] at a2;exact Wp.rng (by kernel_rfl) e a4 (by decide) (fun _=>fin _ _ a1 a2 a5 a6 a7) (fun h=>nomatch h) (fun _ h=>nomatch h)
 ·rw [a9] at a1
  rw[a8] at a3;refine Wp.rng (by kernel_rfl) e a4 (by decide) (fun h=>nomatch h) (fun h=>nomatch h) (fun id h=>?_);cases h;exact yc rfl (fin _ _ a1 a3 a5 a6 a7)
end
theorem frames_len:∀L:List Snd,48*L.length≤(journB L).length
 |[]=>Nat.zero_le _
 |x::L=>by
  have:=frames_len L;rw[journB_cons,List.length_append,frameB_length,sndB_len,List.length_cons];omega
theorem jmend{s:DS}{L:List Snd}{tl:Bytes}(hp:s.p= -1)(k:Behind (s.fs 0) L tl):
  readS s 0=journB L++tl∧(readE s 0=0∨(readE s 0=4∧readS s 0=[]))∧((journB L).length=(readS s 0).length→FileIs (s.fs 0) L)∧
  ((journB L).length≠(readS s 0).length→errP s 0 ⟨1,[],((journB L).length:Int)⟩=0∧refP (actD s 0 ⟨1,[],((journB L).length:Int)⟩).p 0=0∧FileIs ((synD (actD s 0 ⟨1,[],((journB L).length:Int)⟩) 0).fs 0) L∧(synD (actD s 0 ⟨1,[],((journB L).length:Int)⟩) 0).p= -1):=by
 have r0:∀p:Int,p= -1→refP p 0=0:=fun p h=>by
  unfold refP;rw[if_neg (by omega),if_pos (by omega)]
 have hr:readS s 0=journB L++tl:=by
  unfold readS;rw[if_pos (r0 _ hp)];show (if (s.fs 0).seen.th=true then (s.fs 0).seen.u else [])=_
  split
  ·exact k.u
  ·rename_i hth
   obtain⟨rfl,rfl⟩:=k.th (Bool.eq_false_iff.2 hth);rfl
 refine⟨hr,?_,fun h=>?_,fun h=>?_⟩
 ·unfold readE readS
  rw[if_pos (r0 _ hp),if_pos (r0 _ hp)];show (if (s.fs 0).seen.th=true then (0:Int) else 4)=0∨_
  split
  ·exact .inl rfl
  ·rename_i hth
   exact .inr ⟨if_neg hth,if_neg hth⟩
 ·rw [hr, List.length_append] at h
  have ht:tl=[]:=List.length_eq_zero_iff.1 (by omega);exact⟨k.loose,k.same,by rw[k.u,ht,List.append_nil],fun h=>(k.th h).1⟩
 ·rw [hr, List.length_append] at h
  have htl:tl.length≠0:=by omega
  have hth:(s.fs 0).seen.th=true:=by
   cases hh:(s.fs 0).seen.th with
   |true=>rfl
   |false=>
    rw[(k.th hh).2] at htl;exact absurd rfl htl
  obtain⟨g,hg⟩:∃g:Int,((journB L).length:Int)=g:=⟨_,rfl⟩;rw[hg]
  have hown:ownE (s.fs 0) ⟨1,[],g⟩=0:=by
   unfold ownE;rw[if_neg (by show ¬(1:Nat)=0;decide),if_neg (by rw[hth];decide),if_neg]
   rintro ⟨_,hh⟩
   have hh:g<0∨((s.fs 0).seen.u.length:Int)<g:=hh;rw[k.u,List.length_append] at hh;omega
  have hE0:errP s ((0:Nat):Int) ⟨1,[],g⟩=0:=(err_ok (r0 _ hp)).trans hown;have ha:actD s ((0:Nat):Int) ⟨1,[],g⟩=_:=act_ok (c:=⟨1,[],g⟩) (r0 _ hp) hown;have hsp:stepP s.p= -1:=by rw[hp];rfl
  have ha:actD s 0 ⟨1,[],g⟩=⟨upd s.fs 0 (moreF (s.fs 0) ⟨1,[],g⟩),stepP s.p,s.ops+1⟩:=ha;refine⟨hE0,?_,?_,?_⟩
  ·rw [ha]
   exact r0 _ hsp
  ·rw [ha]
   unfold synD;rw[if_pos (show refP (stepP s.p) 0=0 from r0 _ hsp)];show FileIs (upd (upd s.fs 0 (moreF (s.fs 0) ⟨1,[],g⟩)) 0 (synF (upd s.fs 0 (moreF (s.fs 0) ⟨1,[],g⟩) 0)) 0) L;rw[upd_same,upd_same];refine⟨rfl,rfl,?_,fun h=>?_⟩
   ·show (s.fs 0).seen.u.take g.toNat = journB L
    rw[←hg,Int.toNat_natCast,k.u,List.take_left' rfl]
   ·have h : (s.fs 0).seen.th = false := h
    rw[hth] at h;cases h
  ·rw [ha]
   unfold synD;rw[if_pos (show refP (stepP s.p) 0=0 from r0 _ hsp)];show stepP (stepP s.p)= -1;rw[hsp];rfl
def shr(lo:Nat→Prop)(a b:Nat):Nat→Prop:=fun i=>lo i∧(i<a∨b≤i)
def Less(lo lo':Nat→Prop):Prop:=∀b,lo' b→lo b
structure Sy (N:Nat) (lo nb:Nat→Prop) (H:AHeap) (db jb:Nat) (s:DS) (L:List Snd) (B:Nat):Prop where
 K:At lo H db s B
 J:JAt nb H jb db L 0
 sep:∀b,nb b→N≤b∧¬lo b∧b<H.next
 fi:FileIs (s.fs 0) L
 ok:OkJ [] L
 hl:∀b,lo b→N≤b
 hN:N≤H.next
structure Crd (N:Nat) (lo:Nat→Prop) (H:AHeap) (db:Nat) (s:DS) (B:Nat) (L:List Snd):Prop where
 K:At lo H db s B
 p:s.p= -1
 fi:∃tl,Behind (s.fs 0) L tl
 ok:OkJ [] L
 hl:∀b,lo b→N≤b
 hN:N≤H.next
section
variable {N n d D db jb B:Nat}{lo nb:Nat→Prop}{H H':AHeap}{s:DS}{L:List Snd}
theorem JAt.cut{br:Int}(J:JAt nb H jb db L br):JAt (fun b=>nb b∧b<H.next) H jb db L br:=by
 obtain⟨sv,mb,ml,D,n1,n2,n3⟩:=J;exact⟨sv,mb,ml,D,⟨n1,D.hjb⟩,⟨n2,D.hmb⟩,fun b hb=>⟨n3 b hb,D.sl.lt b hb⟩⟩
theorem At.read_len(K:At lo H db s B):(readS s 0).length≤B:=by
 unfold readS
 split
 ·split
  ·obtain ⟨_, _, K⟩ := K
   obtain⟨o1,_,o3,_⟩:=K.ok 0 (by decide);have:=doL_len (s.fs 0).loose (s.fs 0).sure;rw[←o1] at this;show (s.fs 0).seen.u.length≤B;omega
  ·exact Nat.zero_le _
 ·exact Nat.zero_le _
theorem bldJou(db mb:Nat):bldS Try.prog TJou [(0,.ptr db 0),(2,.mp mb)]=some [.ptr db 0,.nsl,.mp mb,.int .i64 0]:=by kernel_rfl
set_option maxHeartbeats 1000000 in
theorem Crd.open(Y:Crd N lo H db s B L)(hn:1000000000<n)(hB:B<700000):
  ∃lo' nb' H' jb S s',wL n (D+6) (d+6) false 20 [.ptr db 0] H=some (.ret (.tup [.ptr jb 0,.int .i64 0]),H')∧Sy N lo' nb' H' db jb s' L (B+4)∧s'.p= -1∧Less lo lo'∧(∀b,nb' b→H.next≤b)∧Tch S H H'∧∀b∈S,lo b:=by
 suffices hK:Wp (journal_Open (wL n (D+6) (d+5) false) n (.ptr db 0) H) fun r H'=>∃lo' nb' jb S s',r=.ret (.tup [.ptr jb 0,.int .i64 0])∧Sy N lo' nb' H' db jb s' L (B+4)∧s'.p= -1∧Less lo lo'∧(∀b,nb' b→H.next≤b)∧Tch S H H'∧∀b∈S,lo b by
  obtain⟨_,H',e,lo',nb',jb,S,s',rfl,k⟩:=hK;exact⟨lo',nb',H',jb,S,s',wL_journal_Open n (D+6) (d+5) _ e,k⟩
 obtain⟨tl,hb⟩:=Y.fi;obtain⟨hr,hre,hsame,hdiff⟩:=jmend Y.p hb;obtain⟨rf1,rf2⟩:=read_file Y.ok hb.bad;rw[←hr] at rf1 rf2;have hlen:=Y.K.read_len;have hx:=Y.K.ex;unfold journal_Open;refine Wp.callN ((wL_b 32).trans (read_a (n:=n) (d:=D+3) (z:=0) Y.K)) (Wp.obind (extT_0 _ _) (Wp.obind (avStr_str _) (Wp.obind (extT_1 _ _ _) (Wp.obind (avInt_int _ _) (Wp.lett (y8 fun j20 e20=>?_))))))
 have go:Wp (j20 false H) fun r H'=>∃lo' nb' jb S s',r=.ret (.tup [.ptr jb 0,.int .i64 0])∧Sy N lo' nb' H' db jb s' L (B+4)∧s'.p= -1∧Less lo lo'∧(∀b,nb' b→H.next≤b)∧Tch S H H'∧∀b∈S,lo b:=by
  rw[e20];refine y7 rfl (y8 fun h2 e2=>Wp.obind (bldJou db H.next) ?_);have t2:Tch [] H h2:=by rw[e2];exact Tch.new _ _ _
  have l2:H.next<h2.next:=by rw[e2];exact Nat.lt_succ_self _
  have g2:h2.get H.next=some (.map (mtE [])):=by rw[e2];exact y13 _ _ _
  refine y17 (Mem.nil [] h2) rfl fun h3 M3=>?_;have t3:=M3.tch;have l3:=M3.at0.2.1;have D0:JD h3 h2.next db .nsl H.next [] [] 0:=⟨M3.at0.1,l3,.inl ⟨rfl,rfl⟩,(t3.2.2 _ l2 (fun h=>nomatch h)).trans g2,by omega,fun _=>rfl⟩;obtain⟨h4,e4,J4,t4⟩:=jread_w (n:=n) (D:=D) (d:=d) (u:=readS s 0) D0 (by rw[t3.2.1,t2.2.1,hx]) (by omega) hn;rw[rf1] at J4;rw[rf2] at e4;have n4:=t4.1
  have T4:Tch [] H h4:=(t2.trans t3).trans' t4 fun b hb=>.inr (by
   rcases List.mem_cons.1 hb with rfl|hb
   ·omega
   ·rw [List.mem_singleton.1 hb]
    exact Nat.le_refl _)
  have K4:=Y.K.part T4 (fun _ h=>nomatch h);have ll:=lenS_nat (readS s 0);have J4':=J4.cut
  have hsep:∀b,((b=h2.next∨b=H.next∨h3.next≤b)∧b<h4.next)→H.next≤b∧b<h4.next:=fun b hb=>by
   rcases hb with⟨hb|hb|hb,h⟩<;>omega
  have hNH:=Y.hN;refine Wp.callN e4 (Wp.obind (avInt_int _ _) (Wp.lett ?_))
  by_cases hg:(journB L).length=(readS s 0).length
  ·refine yc (beq_t (by omega)) (Wp.ret ⟨_, _, h2.next, [], s, rfl, ⟨K4.mono (by omega), J4', fun b hb => ?_, hsame hg, Y.ok, fun b hb => Y.hl b hb.1, by have := T4.1; omega⟩, Y.p, fun b hb => hb.1, fun b hb => (hsep b hb).1, T4, fun _ h => nomatch h⟩)
   have:=hsep b hb;exact⟨by omega,fun hh=>by rcases hh.2 with h|h<;>omega,this.2⟩
  ·obtain ⟨d1, d2, d3, d4⟩ := hdiff hg
   obtain⟨h5,S5,e5,K5,t5,hS5⟩:=cut_ok (n:=n) (d:=D+3) (z:=0) (m:=((journB L).length:Int)) (by omega) K4 (by omega);obtain⟨h6,S6,e6,K6,t6,hS6⟩:=sync_ok (n:=n) (d:=D+3) (z:=0) (by omega) K5 (by omega);rw[d1] at e5;rw[d2] at e6;have t56:Tch (S5++S6) h4 h6:=(t5.mono fun b hb=>.inl (List.mem_append_left _ hb)).trans (t6.mono fun b hb=>.inl (List.mem_append_right _ hb));have hS:∀b∈S5++S6,lo b∧(b<H.next∨h4.next≤b):=fun b hb=>(List.mem_append.1 hb).elim (hS5 b) (hS6 b)
   have J6:=J4'.tch t56 (fun b hb hh=>by
    have h1:=hsep b hh
    rcases(hS b hb).2 with h|h<;>omega)
   have n6:=t56.1;refine y7 (beq_f (by omega)) (Wp.callN ((wL_b 34).trans e5) (Wp.obind (avInt_int _ _) (Wp.lett (y7 rfl (Wp.callN ((wL_b 22).trans e6) (Wp.obind (avInt_int _ _) (Wp.lett (y7 rfl (Wp.ret ⟨_,_,h2.next,S5++S6,_,rfl,⟨K6.mono (by omega),J6,fun b hb=>?_,d3,Y.ok,fun b hb=>Y.hl b hb.1,by have:=T4.1;omega⟩,d4,fun b hb=>hb.1,fun b hb=>(hsep b hb).1,(T4.mono fun _ h=>nomatch h).trans t56,fun b hb=>(hS b hb).1⟩)))))))));have:=hsep b hb;exact⟨by omega,fun hh=>by rcases hh.2 with h|h<;>omega,by omega⟩
 rcases hre with h0|⟨h4,_⟩
 ·rw [show (readE s 0 != 0) = false from bne_f h0]
  exact y7 rfl go
 ·rw [show (readE s 0 != 0) = true from bne_t (by omega)]
  refine yc rfl (Wp.lett ?_);rw[show (readE s 0 != 4)=false from bne_f h4];exact go
end
structure Mid (N:Nat) (lo:Nat→Prop) (H:AHeap) (db:Nat) (s:DS) (B:Nat) (L:List Snd) (x:Snd):Prop where
 K:At lo H db s B
 tj:TornJ (s.fs 0) L x
 ok:OkJ [] L
 c:checkJ x=0
 r:refJ L x=0
 hl:∀b,lo b→N≤b
 hN:N≤H.next
theorem jadd_out{s:DS}{L:List Snd}{x:Snd}{u:Bytes}(k:FileIs (s.fs 0) L)(hu:frameB (sndB x)=u)(hsz:(journB L).length <900000)(hul:u.length≤200):
  (errP s 0 (chA u)=40∧actD s 0 (chA u)=s∧s.p=0)∨(errP s 0 (chA u)=0∧((refP (actD s 0 (chA u)).p 0=0∧FileIs ((synD (actD s 0 (chA u)) 0).fs 0) (L++[x]))∨(refP (actD s 0 (chA u)).p 0=40∧synD (actD s 0 (chA u)) 0=actD s 0 (chA u)∧TornJ ((actD s 0 (chA u)).fs 0) L x∧s.p≠ -1))):=by
 by_cases hp:s.p=0
 ·have r40 : refP s.p 0 = 40 := if_pos hp
  have e40:errP s 0 (chA u)=40:=by
   unfold errP;rw[if_neg (by rw[r40];decide),r40]
  exact .inl ⟨e40,act_no (by rw[e40];decide),hp⟩
 ·have r0 : refP s.p ((0 : Nat) : Int) = 0 := by
   unfold refP;rw[if_neg hp,if_pos (by omega)]
  have hown:ownE (s.fs 0) (chA u)=0:=by
   have:¬(1048576:Int) - ((s.fs 0).seen.u.length:Int)<(u.length:Int):=by
    rw[k.u];omega
   exact(if_pos rfl).trans (if_neg this)
  have hE0:errP s 0 (chA u)=0:=(err_ok r0).trans hown;have ha:actD s 0 (chA u)=⟨upd s.fs 0 (moreF (s.fs 0) (chA u)),stepP s.p,s.ops+1⟩:=act_ok r0 hown;refine .inr ⟨hE0,?_⟩;rw[ha]
  by_cases hq:stepP s.p=0
  ·have r40 : refP (stepP s.p) 0 = 40 := if_pos hq
   refine .inr ⟨r40,?_,?_,fun h=>by rw[h] at hq;cases hq⟩
   ·unfold synD
    rw[if_neg (by show ¬refP (stepP s.p) 0=0;rw[r40];decide)]
   ·show TornJ (upd s.fs 0 (moreF (s.fs 0) (chA u)) 0) L x
    rw[upd_same];refine⟨.inr ?_,?_,?_⟩
    ·show (s.fs 0).loose ++ [chA u] = _
     rw[k.loose,hu];rfl
    ·show (s.fs 0).sure.u = _
     rw[k.same];exact k.u
    ·show (s.fs 0).sure.th = false → _
     rw[k.same];exact k.th
  ·have r1 : refP (stepP s.p) 0 = 0 := by
    unfold refP;rw[if_neg hq,if_pos (by omega)]
   refine .inl ⟨r1,?_⟩;unfold synD;rw[if_pos (show refP (stepP s.p) 0=0 from r1)];show FileIs (upd (upd s.fs 0 (moreF (s.fs 0) (chA u))) 0 (synF (upd s.fs 0 (moreF (s.fs 0) (chA u)) 0)) 0) (L++[x]);rw[upd_same,upd_same];refine⟨rfl,rfl,?_,fun h=>by cases h⟩;show (s.fs 0).seen.u++u=_;rw[k.u,journB_app,journB_one,hu]
section
variable {N n d D db jb B:Nat}{lo nb:Nat→Prop}{H H':AHeap}{s:DS}{L:List Snd}{x:Snd}
theorem JAt.setbr{br e:Int}(J:JAt nb H jb db L br){K:AHeap→R}{Q:ARes→AHeap→Prop}(hk:∀H',JAt nb H' jb db L e→Tch [jb] H H'→H'.next=H.next→Wp (K H') Q):Wp (Abs.obind (stRow H 1 [.int .i64 e] (.ptr jb (0+3))) K) Q:=by
 obtain⟨sv,mb,ml,D,n1,n2,n3⟩:=J
 have hjs:jb ∉ blkV sv:=fun hb=>by
  rcases D.sl with⟨rfl,_⟩|⟨c,rfl,hr,_⟩
  ·cases hb
  ·exact y3a D.row hr (by decide) (List.mem_singleton.1 hb)
 have hjm:jb≠mb:=y3b D.row D.mp;have hjb:=D.hjb;have hmb:=D.hmb;refine Wp.st1 D.row (show 0+3<4 by decide) rfl fun H2 k2 t2 e2=>hk H2 ⟨sv,mb,ml,⟨k2,by omega,D.sl.tch t2 (fun b hb h=>hjs (List.mem_singleton.1 h▸hb)),(t2.2.2 mb hmb (fun h=>hjm (List.mem_singleton.1 h).symm)).trans D.mp,by omega,D.look⟩,n1,n2,n3⟩ t2 e2
theorem JAt.br_ld{br:Int}(J:JAt nb H jb db L br):ldCell H (.ptr jb (0+3))=some (.int .i64 br):=by
 obtain⟨sv,mb,ml,D,_⟩:=J;exact y5 D.row rfl
theorem JAt.db_ld{br:Int}(J:JAt nb H jb db L br):ldCell H (.ptr jb (0+0))=some (.ptr db 0):=by
 obtain⟨sv,mb,ml,D,_⟩:=J;exact y5 D.row rfl
theorem JAt.jb_nb{br:Int}(J:JAt nb H jb db L br):nb jb:=by
 obtain⟨sv,mb,ml,D,n1,_⟩:=J;exact n1
theorem OkJ.all:∀{L k:List Snd},OkJ L k→∀x∈k,checkJ x=0
 |_,[],_,_,h=>nomatch h
 |L,y::k,h,x,hx=>by
  rcases List.mem_cons.1 hx with rfl|hx
  ·exact h.1
  ·exact OkJ.all h.2.2 x hx
set_option maxHeartbeats 2000000 in
theorem Sy.add(Y:Sy N lo nb H db jb s L B)(hn:1000000<n)(hB:B<500000)(x:Snd)(hs:x.s.length≤1000000000):
  ∃lo' nb' H' S e s',wL n (D+6) (d+1) false 40 [.ptr jb 0,.agg (sndC x)] H=some (.ret (.int .i64 e),H')∧Less lo lo'∧Tch S H H'∧(∀b∈S,lo b∨nb b)∧(∀b,nb' b→nb b∨H.next≤b)∧(checkJ x=0→refJ L x=0→(e=0∨e=40)∧(s.p= -1→e=0))∧
   ((e≠0∧e≠40∧Sy N lo' nb' H' db jb s' L (B+200))∨(e=0∧Sy N lo' nb' H' db jb s' (L++[x]) (B+200))∨(e=40∧Mid N lo' H' db s' (B+200) L x)):=by
 suffices hK:Wp (world n (D+6) 40 [.ptr jb 0,.agg (sndC x)] H) fun r H'=>∃lo' nb' S e s',r=.ret (.int .i64 e)∧Less lo lo'∧Tch S H H'∧(∀b∈S,lo b∨nb b)∧(∀b,nb' b→nb b∨H.next≤b)∧(checkJ x=0→refJ L x=0→(e=0∨e=40)∧(s.p= -1→e=0))∧
   ((e≠0∧e≠40∧Sy N lo' nb' H' db jb s' L (B+200))∨(e=0∧Sy N lo' nb' H' db jb s' (L++[x]) (B+200))∨(e=40∧Mid N lo' H' db s' (B+200) L x)) by
  obtain⟨_,H',e1,lo',nb',S,e,s',rfl,k⟩:=hK;exact⟨lo',nb',H',S,e,s',(wL_b 40).trans e1,k⟩
 have hx:=Y.K.ex;have hfl:=frames_len L
 have hjl:(journB L).length≤B:=by
  have h1:(s.fs 0).seen.u.length≤B:=by
   obtain⟨_,_,K⟩:=Y.K;obtain⟨o1,_,o3,_⟩:=K.ok 0 (by decide);have:=doL_len (s.fs 0).loose (s.fs 0).sure;rw[←o1] at this;omega
  rw[Y.fi.u] at h1;exact h1
 rw[w_journal_Journal_Add];unfold journal_Journal_Add;refine y17 (Mem.nil [] H) (snd_one x) fun h2 M2=>?_;have k2:=M2.at0.1;have l2:=M2.at0.2.1;have t2:=M2.tch;have J2:=Y.J.tch t2 (fun _ h=>nomatch h)
 -- nothing is done
 have same:∀(e:Int) (h3:AHeap),Tch [] h2 h3→e≠0→e≠40→(checkJ x=0→refJ L x=0→(e=0∨e=40)∧(s.p= -1→e=0))→Wp (some (ARes.ret (.int .i64 e),h3)) fun r H'=>∃lo' nb' S e s',r=.ret (.int .i64 e)∧Less lo lo'∧Tch S H H'∧(∀b∈S,lo b∨nb b)∧(∀b,nb' b→nb b∨H.next≤b)∧(checkJ x=0→refJ L x=0→(e=0∨e=40)∧(s.p= -1→e=0))∧
   ((e≠0∧e≠40∧Sy N lo' nb' H' db jb s' L (B+200))∨(e=0∧Sy N lo' nb' H' db jb s' (L++[x]) (B+200))∨(e=40∧Mid N lo' H' db s' (B+200) L x)):=fun e h3 t3 h0 h40 he=>by
  have T3:=t2.trans t3;exact Wp.ret ⟨lo,nb,[],e,s,rfl,fun _ h=>h,T3,(fun _ h=>nomatch h),fun b h=>.inl h,he,.inl ⟨h0,h40,(Y.K.tch T3 (fun _ h=>nomatch h)).mono (by omega),J2.tch t3 (fun _ h=>nomatch h),fun b hb=>⟨(Y.sep b hb).1,(Y.sep b hb).2.1,Nat.lt_of_lt_of_le (Y.sep b hb).2.2 T3.1⟩,Y.fi,Y.ok,Y.hl,Nat.le_trans Y.hN T3.1⟩⟩
 refine Wp.outK (eqJou jb h2) (Wp.obind (avBool_bool _) (y7 rfl (Wp.obind (nilC_ptr _ _) (Wp.obind (fldP_ptr _ _ _) (Wp.obind J2.br_ld (Wp.obind (avInt_int _ _) (Wp.lett (y7 rfl (Wp.obind (k2.ldAll rfl) (Wp.callN (check_w (n:=n) (d:=D+3) (by omega) hs) (Wp.obind (avInt_int _ _) (Wp.lett ?_))))))))))))
 by_cases hc:checkJ x=0
 case neg=>
  refine yc (bne_t hc) (same _ h2 (Tch.refl _ _) hc ?_ (fun h=>absurd h hc));unfold checkJ
  split
  ·split<;>decide
  ·decide
 obtain⟨h3,e3,t3⟩:=jref_w (n:=n) (d:=D+3) (x:=x) J2 (lastZ_bound Y.ok.all x.k);have n23:=t3.1;have k3:=k2.tch t3 l2 (fun h=>nomatch h);have J3:=J2.tch t3 (fun _ h=>nomatch h);refine y7 (bne_f hc) (Wp.obind (k2.ldAll rfl) (Wp.callN e3 (Wp.obind (avInt_int _ _) (Wp.lett ?_))))
 by_cases hr:refJ L x=0
 case neg=>
  refine yc (bne_t hr) (same _ h3 t3 hr ?_ (fun _ h=>absurd h hr));unfold refJ
  split
  ·decide
  ·split<;>decide
 have T3:=t2.trans t3;have x3:h3.ex=[]:=by rw[T3.2.1,hx]
 have hsl:=(checkJ_ok hc).2;obtain⟨u,hu⟩:∃u,frameB (sndB x)=u:=⟨_,rfl⟩
 have hul:u.length≤112:=by
  rw[←hu,frameB_length,sndB_len];omega
 have hfr:=framed_w (n:=n) (d:=D) (x:=x) (H:=h3) (by omega) x3 hc;rw[hu] at hfr;refine y7 (bne_f hr) (Wp.obind (k3.ldAll rfl) (Wp.callN hfr (Wp.obind (extT_0 _ _) (Wp.obind (avStr_str _) (Wp.obind (extT_1 _ _ _) (Wp.obind (avInt_int _ _) (Wp.lett (y7 rfl (Wp.obind (nilC_ptr _ _) (Wp.obind (fldP_ptr _ _ _) (Wp.obind J3.db_ld ?_)))))))))));have K3:=Y.K.part T3 (fun _ h=>nomatch h);have n3:=T3.1;obtain⟨h4,S4,e4,K4,t4,hS4⟩:=append_ok (n:=n) (d:=D+2) (u:=u) (z:=0) hn K3 (by omega);have n4:=t4.1;have hS4':∀b∈S4,¬nb b:=fun b hb hh=>(Y.sep b hh).2.1 (hS4 b hb).1;have J4:=J3.tch t4 hS4'
 have k4:=k3.tch t4 (Nat.lt_of_lt_of_le l2 t3.1) (fun h=>by
  rcases(hS4 _ h).2 with h|h<;>omega)
 have hout:=jadd_out (x:=x) (u:=u) Y.fi hu (by omega) (by omega);have hjb:=J3.jb_nb;have sepb:=Y.sep jb hjb;have hNH:=Y.hN;refine Wp.callN e4 (Wp.obind (avInt_int _ _) (Wp.obind (nilC_ptr _ _) (Wp.obind (fldP_ptr _ _ _) (J4.setbr fun h5 J5 t5 n5=>?_))));have K5:=K4.tch t5 (fun b hb=>.inl (by rw[List.mem_singleton.1 hb];exact fun h=>sepb.2.1 h.1));have k5:=k4.tch t5 (by omega) (fun h=>by have:=List.mem_singleton.1 h;omega);refine Wp.obind (nilC_ptr _ _) (Wp.obind (fldP_ptr _ _ _) (Wp.obind J5.br_ld (Wp.obind (avInt_int _ _) (Wp.lett (y8 fun k70 e70=>?_)))));have T5:Tch (jb::S4) H h5:=((T3.mono fun _ h=>nomatch h).trans (t4.mono fun b hb=>.inl (List.mem_cons_of_mem _ hb))).trans (t5.mono fun b hb=>.inl (by rw[List.mem_singleton.1 hb];exact List.mem_cons_self ..))
 have hS5:∀b∈jb::S4,lo b∨nb b:=fun b hb=>by
  rcases List.mem_cons.1 hb with rfl|hb
  ·exact .inr hjb
  ·exact .inl (hS4 b hb).1
 rcases hout with⟨o1,o2,o3⟩|⟨o1,o2⟩
 ·refine y7 (beq_f (by show errP s 0 ⟨0, u, 0⟩ ≠ 0; rw [show errP s 0 ⟨0, u, 0⟩ = 40 from o1]; decide)) ?_
  rw[show errP s 0 ⟨0,u,0⟩=40 from o1] at J5;rw[show actD s 0 ⟨0,u,0⟩=s from o2] at K5;rw[e70];refine Wp.obind (nilC_ptr _ _) (Wp.obind (fldP_ptr _ _ _) (Wp.obind J5.br_ld (Wp.obind (avInt_int _ _) (Wp.lett (y8 fun k79 e79=>y7 rfl ?_)))));rw[e79];refine Wp.obind (nilC_ptr _ _) (Wp.obind (fldP_ptr _ _ _) (Wp.obind J5.br_ld (Wp.obind (avInt_int _ _) (Wp.ret ⟨_,nb,jb::S4,40,s,rfl,fun b hb=>hb.1,T5,hS5,fun b h=>.inl h,fun _ _=>⟨.inr rfl,fun h=>by omega⟩,.inr (.inr ⟨rfl,K5.mono (by omega),⟨.inl Y.fi.loose,by rw[Y.fi.same];exact Y.fi.u,by rw[Y.fi.same];exact Y.fi.th⟩,Y.ok,hc,hr,fun b hb=>Y.hl b hb.1,by omega⟩)⟩))))
 ·rw [show errP s 0 ⟨0, u, 0⟩ = 0 from o1] at J5 ⊢
  obtain⟨h6,S6,e6,K6,t6,hS6⟩:=sync_ok (n:=n) (d:=D+2) (z:=0) hn K5 (by omega);have n6:=t6.1;have J6:=J5.tch t6 (fun b hb hh=>(Y.sep b hh).2.1 (hS6 b hb).1);have k6:=k5.tch t6 (by omega) (fun h=>by rcases(hS6 _ h).2 with h|h<;>omega);refine yc rfl (Wp.obind (nilC_ptr _ _) (Wp.obind (fldP_ptr _ _ _) (Wp.obind J5.db_ld (Wp.callN e6 (Wp.obind (avInt_int _ _) (Wp.obind (nilC_ptr _ _) (Wp.obind (fldP_ptr _ _ _) (J6.setbr fun h7 J7 t7 n7=>?_))))))));have K7:=K6.tch t7 (fun b hb=>.inl (by rw[List.mem_singleton.1 hb];exact fun h=>sepb.2.1 h.1));have k7:=k6.tch t7 (by omega) (fun h=>by have:=List.mem_singleton.1 h;omega);have T7:Tch (jb::(S4++S6)) H h7:=((T5.mono fun b hb=>.inl ?_).trans (t6.mono fun b hb=>.inl (List.mem_cons_of_mem _ (List.mem_append_right _ hb)))).trans (t7.mono fun b hb=>.inl (by rw[List.mem_singleton.1 hb];exact List.mem_cons_self ..))
  ·have hS7 : ∀ b ∈ jb :: (S4 ++ S6), lo b ∨ nb b := fun b hb => by
    rcases List.mem_cons.1 hb with rfl|hb
    ·exact .inr hjb
    ·rcases List.mem_append.1 hb with hb | hb
     ·exact .inl (hS4 b hb).1
     ·exact .inl (hS6 b hb).1
   rw[e70]
   rcases o2 with⟨o3,o4⟩|⟨o3,o4,o5,o6⟩
   ·rw [show refP (actD s 0 ⟨0, u, 0⟩).p 0 = 0 from o3] at J7
    obtain⟨h8,S8,e8,J8,t8,hS8⟩:=jput_w (n:=n) (d:=D+4) (x:=x) J7 (by rw[T7.2.1,hx]) (by omega);have n8:=t8.1;have K8:=K7.part t8 (fun b hb=>.inl (fun h=>(Y.sep b (hS8 b hb)).2.1 h.1));refine Wp.obind (nilC_ptr _ _) (Wp.obind (fldP_ptr _ _ _) (Wp.obind J7.br_ld (Wp.obind (avInt_int _ _) (Wp.lett (y8 fun k79 e79=>yc rfl (Wp.obind (k7.ldAll rfl) (Wp.callN e8 ?_)))))));rw[e79];refine Wp.obind (nilC_ptr _ _) (Wp.obind (fldP_ptr _ _ _) (Wp.obind J8.br_ld (Wp.obind (avInt_int _ _) (Wp.ret ⟨_,_,(jb::(S4++S6))++S8,0,_,rfl,fun b hb=>hb.1.1,(T7.mono fun b hb=>.inl (List.mem_append_left _ hb)).trans (t8.mono fun b hb=>.inl (List.mem_append_right _ hb)),fun b hb=>?_,fun b hb=>?_,fun _ _=>⟨.inl rfl,fun _=>rfl⟩,.inr (.inl ⟨rfl,K8.mono (by omega),J8,fun b hb=>?_,o4,OkJ_snoc L [] x Y.ok hc hr,fun b hb=>Y.hl b hb.1.1,by omega⟩)⟩))))
    ·rcases List.mem_append.1 hb with hb | hb
     ·exact hS7 b hb
     ·exact .inr (hS8 b hb)
    ·rcases hb with hb | hb
     ·exact .inl hb
     ·exact .inr (by omega)
    ·rcases hb with hb | hb
     ·have := Y.sep b hb
      exact⟨this.1,fun h=>this.2.1 h.1.1,by omega⟩
     ·exact⟨by omega,fun h=>by rcases h.2 with h|h<;>omega,hb.2⟩
   ·rw [show refP (actD s 0 ⟨0, u, 0⟩).p 0 = 40 from o3] at J7
    rw[show synD (actD s 0 ⟨0,u,0⟩) 0=actD s 0 ⟨0,u,0⟩ from o4] at K7;refine Wp.obind (nilC_ptr _ _) (Wp.obind (fldP_ptr _ _ _) (Wp.obind J7.br_ld (Wp.obind (avInt_int _ _) (Wp.lett (y8 fun k79 e79=>y7 rfl ?_)))));rw[e79];exact Wp.obind (nilC_ptr _ _) (Wp.obind (fldP_ptr _ _ _) (Wp.obind J7.br_ld (Wp.obind (avInt_int _ _) (Wp.ret ⟨_,nb,jb::(S4++S6),40,_,rfl,fun b hb=>hb.1,T7,hS7,fun b h=>.inl h,fun _ _=>⟨.inr rfl,fun h=>absurd h o6⟩,.inr (.inr ⟨rfl,K7.mono (by omega),o5,Y.ok,hc,hr,fun b hb=>Y.hl b hb.1,by omega⟩)⟩))))
  ·rcases List.mem_cons.1 hb with rfl | hb
   ·exact List.mem_cons_self ..
   ·exact List.mem_cons_of_mem _ (List.mem_append_left _ hb)
theorem Mid.crash(Y:Mid N lo H db s B L x)(hn:1000000<n)(hB:B<900000){torn:Int}(ht:torn<9223372036854775808){lv:AV}{zs:List Int}(hz:zs.length<9223372036854775808)(rd:RdI lo H lv zs):
  ∃H' S s' L',wL n (D+6) (d+1) false 14 [.ptr db 0,lv,.int .i64 torn] H=some (.ret (.int .i64 0),H')∧(L'=L∨L'=L++[x])∧Crd N lo H' db s' B L'∧Tch S H H'∧∀b∈S,lo b:=by
 obtain⟨H',S,e,K',t,hS⟩:=crash_ok (n:=n) (d:=D+2) hn hB ht hz Y.K rd;obtain⟨L',tl,hL,hb⟩:=crash_torn (checkJ_ok Y.c).2 Y.tj (keepAt zs 0) torn
 have hfs:(crashD s zs torn).fs 0=crashF (s.fs 0) (keepAt zs 0) torn:=by
  show (if (0:Nat)<32 then crashF (s.fs 0) (keepAt zs 0) torn else s.fs 0)=_;rw[if_pos (by decide)]
 refine⟨H',S,_,L',(wL_b 14).trans e,hL,⟨K',rfl,⟨tl,by rw[hfs];exact hb⟩,?_,Y.hl,Nat.le_trans Y.hN t.1⟩,t,hS⟩
 rcases hL with rfl|rfl
 ·exact Y.ok
 ·exact OkJ_snoc L [] x Y.ok Y.c Y.r
theorem Sy.crash(Y:Sy N lo nb H db jb s L B)(hn:1000000<n)(hB:B<900000){torn:Int}(ht:torn<9223372036854775808){lv:AV}{zs:List Int}(hz:zs.length<9223372036854775808)(rd:RdI lo H lv zs):
  ∃H' S s',wL n (D+6) (d+1) false 14 [.ptr db 0,lv,.int .i64 torn] H=some (.ret (.int .i64 0),H')∧Crd N lo H' db s' B L∧Tch S H H'∧∀b∈S,lo b:=by
 obtain⟨H',S,e,K',t,hS⟩:=crash_ok (n:=n) (d:=D+2) hn hB ht hz Y.K rd
 have hfs:(crashD s zs torn).fs 0=crashF (s.fs 0) (keepAt zs 0) torn:=by
  show (if (0:Nat)<32 then crashF (s.fs 0) (keepAt zs 0) torn else s.fs 0)=_;rw[if_pos (by decide)]
 exact⟨H',S,_,(wL_b 14).trans e,⟨K',rfl,⟨[],by rw[hfs];exact crash_file Y.fi _ _⟩,Y.ok,Y.hl,Nat.le_trans Y.hN t.1⟩,t,hS⟩
end
end Go.Proofs.Ytfcedccphhmdgaa
