/- What journalPlays_proved stands on, part 8 of 10. -/
import Derived.Test.YtbhblbffdmiepaaJP7
namespace Go.Proofs.Ytbhblbffdmiepaa
open Go.RowKit Abs
noncomputable def z18c:List Chg→List AV
 |[]=>[]
 |c::l=>z399 c++z18c l
theorem z25e:∀l:List Chg,(z18c l).length=3*l.length
 |[]=>rfl
 |c::l=>by
  have:=z25e l;rw[z18c,List.length_append,this,List.length_cons];show 3+_=_;omega
theorem z2fc:∀a b:List Chg,z18c (a++b)=z18c a++z18c b
 |[],_=>rfl
 |c::a,b=>by rw[List.cons_append,z18c,z2fc a b,z18c,List.append_assoc]
def LooseAt(h:AHeap)(v:AV)(l:List Chg):Prop:=(v=.nsl∧l=[])∨∃c,v=.sl c 0 l.length 3∧RowH h c TChg (z18c l)∧c<h.next
theorem fitChg:fitB Try.prog TChg 32=true:=by kernel_rfl
theorem z391(h:AHeap)(k:Int)(s:Bytes)(n:Int):z183 Try.prog h z296 1 [(0,.agg [.int .i64 k,zc s,.int .i64 n])]=z88 h TChg [.int .i64 k,zc s,.int .i64 n] 1 3:=by kernel_rfl
theorem idx3{b m i:Nat}(h:i<m):z17a 3 (.sl b 0 m 3) (i:Int)=some (.ptr b (0+i*3)):=by
 have e:Nat.blt i m=true:=by simpa using h
 show (match Nat.blt i m with|true=>some (AV.ptr b (0+i*3))|false=>none)=_;rw[e]
theorem z1ed{h:AHeap}{b e sz:Nat}{r:List AV}(kr:RowH h b e r)(hr:r.length=sz):z124 h sz (0+1) (.sl b 0 1 sz)=some r:=by
 rw[Nat.zero_add,z123 (Nat.le_refl _),Nat.one_mul];have:=kr.part (o:=0) (n:=r.length) (by omega);rw[List.drop_zero,List.take_length,hr] at this;exact this
section
variable {h h':AHeap}{v:AV}{l:List Chg}{b1:Nat}{c:Chg}
theorem LooseAt.tch{S:List Nat}(k:LooseAt h v l)(t:Tch S h h')(hd:∀b∈z43 v,b ∉ S):LooseAt h' v l:=by
 rcases k with k|⟨c,rfl,h2,h3⟩
 ·exact .inl k
 ·exact .inr ⟨c,rfl,h2.tch t h3 (hd c (List.mem_singleton.2 rfl)),Nat.lt_of_lt_of_le h3 t.1⟩
theorem LooseAt.lt(k:LooseAt h v l):∀b∈z43 v,b<h.next:=by
 rcases k with⟨rfl,_⟩|⟨c,rfl,_,h3⟩
 ·exact fun b hb=>nomatch hb
 ·intro b hb
  rw[List.mem_singleton.1 hb];exact h3
theorem LooseAt.one(k:LooseAt h v l):v.one=true∧AV.cells v=[v]:=by
 rcases k with⟨rfl,rfl⟩|⟨c,rfl,_⟩<;>exact⟨rfl,rfl⟩
theorem chgs_ld{c i:Nat}{rest:List AV}(k:RowH h c TChg (z18c l++rest))(hi:i<l.length):z28 h 3 (.ptr c (0+i*3))=some (z399 l[i]):=by
 have e:z18c l=z18c (l.take i)++(z399 l[i]++z18c (l.drop (i+1))):=by
  have:=z2fc (l.take i) (l.drop i);rw[List.take_append_drop] at this;rw[this,List.drop_eq_getElem_cons hi,z18c]
 have hl:(z18c (l.take i)).length=0+i*3:=by rw[z25e,List.length_take];omega
 rw[k.ld (by rw[List.length_append,z25e];omega),e,List.append_assoc,List.append_assoc,List.drop_left' hl]
 congr 1
theorem LooseAt.rd{S:List Nat}(k:LooseAt h v l)(hS:∀b∈z43 v,b ∉ S):RdL h S v l:=by
 rcases k with⟨rfl,rfl⟩|⟨c,rfl,h2,h3⟩
 ·exact⟨rfl,fun _ _ i hi=>absurd hi (Nat.not_lt_zero _)⟩
 ·refine ⟨rfl, fun H t i hi => ⟨_, idx3 hi, ?_⟩⟩
  have k2:=h2.tch t h3 (hS c (List.mem_singleton.2 rfl));exact chgs_ld (rest:=[]) (by rw[List.append_nil];exact k2) hi
theorem LooseAt.push(k:LooseAt h v l)(kr:RowH h b1 TChg (z399 c))(hm:l.length<20000000)(hx:h.ex=[]):
  ∃h',z34 Try.prog h z296 z296 v (.sl b1 0 1 3)=some (.val (.sl h.next 0 (l.length+1) 3),h')∧LooseAt h' (.sl h.next 0 (l.length+1) 3) (l++[c])∧Tch (z43 v) h h':=by
 have he:Abs.elemOf Try.prog z296=some TChg:=by kernel_rfl
 have hu:z128 Try.prog z296=true:=by kernel_rfl
 have hsz:Try.prog.cellsOf TChg=3:=by kernel_rfl
 have hex:z11c TChg h.ex=false:=by rw[hx];rfl
 have eb:z18c (l++[c])=z18c l++z399 c:=by
  rw[z2fc];show z18c l++(z399 c++[])=_;rw[List.append_nil]
 have el:l.length+1=(l++[c]).length:=by rw[List.length_append,List.length_singleton]
 rcases k with⟨rfl,rfl⟩|⟨b,rfl,h2,h3⟩
 ·have a1 := z137 (P := Try.prog) (h := h) (t := z296) (u := z296) (n := 0) (x := .sl b1 0 1 3) he hu hsz rfl (z1ed kr rfl) (z4c fitChg (by omega) (by omega)) rfl hex
  refine⟨_,a1,.inr ⟨h.next,by rw[el],?_,Nat.lt_succ_self _⟩,Tch.newH _ _ _ _⟩;rw[eb];exact RowH.new _ _ _
 ·have hcl := z25e l
  have a1:=z138 (P:=Try.prog) (h:=h) (t:=z296) (u:=z296) (b:=b) (o:=0) (m:=l.length) (n:=0) (x:=.sl b1 0 1 3) (cs:=z18c l) he hu hsz rfl (z1ed kr rfl) (z4c fitChg (by omega) (by omega)) rfl hex (by
   have:=h2.part (o:=0) (n:=(z18c l).length) (by omega);rw[List.drop_zero,List.take_length] at this;rw[show l.length*3=(z18c l).length by omega];exact this) h2.type
  refine⟨_,a1,.inr ⟨h.next,by rw[el],?_,Nat.lt_succ_self _⟩,(Tch.put (S:=[b]) (.inl (List.mem_singleton.2 rfl)) _).trans (Tch.newH _ _ _ _)⟩;rw[eb];exact RowH.new (h.put b .dead) _ _
end
structure FileS where
 sure:Cont
 seen:Cont
 loose:List Chg
def upd{α:Type}(f:Nat→α)(i:Nat)(x:α):Nat→α:=fun j=>if j=i then x else f j
def FileOk(x:FileS)(B:Nat):Prop:=x.seen=doL x.sure x.loose∧z322 x.sure x.loose∧x.sure.u.length+z2cc x.loose≤B∧x.loose.length≤B
structure FileC (D:List AV) (f:Nat) (x:FileS) (w:Nat→AV):Prop where
 c0:D[5*f]? =some (.bool x.sure.th)
 c1:D[5*f+1]? =some (w 0)
 c2:D[5*f+2]? =some (.bool x.seen.th)
 c3:D[5*f+3]? =some (w 1)
 c4:D[5*f+4]? =some (w 2)
structure FileM (h:AHeap) (x:FileS) (w:Nat→AV):Prop where
 sure:BufAt h (w 0) x.sure.u
 seen:BufAt h (w 1) x.seen.u
 loose:LooseAt h (w 2) x.loose
structure DiskAt (lo:Nat→Prop) (h:AHeap) (db:Nat) (D:List AV) (fs:Nat→FileS) (vs:Nat→Nat→AV) (p:Int) (ops B:Nat):Prop where
 row:RowH h db z306 D
 hdb:db<h.next
 hlo:lo db
 len:D.length=162
 cells:∀f,f<32→FileC D f (fs f) (vs f)
 cp:D[160]? =some (.int .i64 p)
 co:D[161]? =some (.int .i64 (ops:Int))
 mem:∀f,f<32→FileM h (fs f) (vs f)
 own:∃g:Nat→Nat,g db=0∧∀f k,f<32→k<3→∀b∈z43 (vs f k),g b=3*f+k+1
 low:∀f k,f<32→k<3→∀b∈z43 (vs f k),lo b
 ok:∀f,f<32→FileOk (fs f) B
 ex:h.ex=[]
 hp: -1≤p∧p<9223372036854775808
 ho:ops≤B
 nw:∀b,h.next≤b→lo b
theorem FileM.lt{h:AHeap}{x:FileS}{w:Nat→AV}(k:FileM h x w):∀i,i<3→∀b∈z43 (w i),b<h.next:=by
 intro i hi
 rcases i with _|_|_|i
 ·exact k.sure.lt
 ·exact k.seen.lt
 ·exact k.loose.lt
 ·omega
theorem FileM.tch{h h':AHeap}{S:List Nat}{x:FileS}{w:Nat→AV}(k:FileM h x w)(t:Tch S h h')(hS:∀i,i<3→∀b∈z43 (w i),b ∉ S):FileM h' x w:=
 ⟨k.sure.tch t (hS 0 (by decide)),k.seen.tch t (hS 1 (by decide)),k.loose.tch t (hS 2 (by decide))⟩
section
variable {lo:Nat→Prop}{n d db:Nat}{h h':AHeap}{D D':List AV}{fs:Nat→FileS}{vs:Nat→Nat→AV}{p:Int}{ops B B' f:Nat}
theorem DiskAt.lt(K:DiskAt lo h db D fs vs p ops B){f k:Nat}(hf:f<32)(hk:k<3):∀b∈z43 (vs f k),b<h.next:=(K.mem f hf).lt k hk
theorem DiskAt.nd(K:DiskAt lo h db D fs vs p ops B){f k:Nat}(hf:f<32)(hk:k<3):db ∉ z43 (vs f k):=fun hb=>by
 obtain⟨g,g0,g1⟩:=K.own;have:=g1 f k hf hk _ hb;omega
theorem DiskAt.ne(K:DiskAt lo h db D fs vs p ops B){f k f' k':Nat}(hf:f<32)(hk:k<3)(hf':f'<32)(hk':k'<3)(hne:¬(f=f'∧k=k')):∀b∈z43 (vs f k),b ∉ z43 (vs f' k'):=fun b hb hb'=>by
 obtain⟨g,g0,g1⟩:=K.own;have h1:=g1 f k hf hk _ hb;have h2:=g1 f' k' hf' hk' _ hb';omega
theorem DiskAt.upd{S:List Nat}{x:FileS}{w:Nat→AV}(K:DiskAt lo h db D fs vs p ops B)(hf:f<32)(t:Tch S h h')(hS:∀b∈S,b=db∨∃k,k<3∧b∈z43 (vs f k))(row:RowH h' db z306 D')(hlen:D'.length=162)(hc:FileC D' f x w)(rest:∀i,(i<5*f∨5*f+5≤i)→D'[i]? =D[i]?)(bw:∀k,k<3→∀b∈z43 (w k),b∈z43 (vs f k)∨h.next≤b)(bd:∀k l,k<3→l<3→k≠l→∀b∈z43 (w k),b ∉ z43 (w l))(hm:FileM h' x w)(hok:FileOk x B')(hB:B≤B'):DiskAt lo h' db D' (upd fs f x) (upd vs f w) p ops B':=by
 obtain⟨g,g0,g1⟩:=K.own;have hle:=t.1;have hdn:=K.hdb
 have ot:∀f',f'<32→f'≠f→∀k,k<3→∀b∈z43 (vs f' k),b ∉ S:=fun f' hf' hne k hk b hb hm=>by
  rcases hS b hm with rfl|⟨k',hk',hb'⟩
  ·exact K.nd hf' hk hb
  ·exact K.ne hf' hk hf hk' (fun h=>hne h.1) b hb hb'
 refine⟨row,Nat.lt_of_lt_of_le hdn hle,K.hlo,hlen,fun f' hf'=>?_,?_,?_,fun f' hf'=>?_,⟨fun b=>if b<h.next then g b else if b∈z43 (w 0) then 3*f+1 else if b∈z43 (w 1) then 3*f+2 else 3*f+3,?_,fun f' k hf' hk b hb=>?_⟩,fun f' k hf' hk b hb=>?_,fun f' hf'=>?_,by rw[t.2.1,K.ex],K.hp,Nat.le_trans K.ho hB,fun b hb=>K.nw b (Nat.le_trans hle hb)⟩
 ·unfold Go.Proofs.Ytbhblbffdmiepaa.upd
  by_cases e:f'=f
  ·rw [if_pos e, if_pos e, e]
   exact hc
  ·rw [if_neg e, if_neg e]
   have hk:=K.cells f' hf';have key:∀j,j<5→D'[5*f'+j]? =D[5*f'+j]?:=fun j hj=>rest _ (by omega);exact⟨(key 0 (by decide)).trans hk.c0,(key 1 (by decide)).trans hk.c1,(key 2 (by decide)).trans hk.c2,(key 3 (by decide)).trans hk.c3,(key 4 (by decide)).trans hk.c4⟩
 ·rw [rest _ (by omega)]
  exact K.cp
 ·rw [rest _ (by omega)]
  exact K.co
 ·unfold Go.Proofs.Ytbhblbffdmiepaa.upd
  by_cases e:f'=f
  ·rw [if_pos e, if_pos e]
   exact hm
  ·rw [if_neg e, if_neg e]
   exact(K.mem f' hf').tch t (ot f' hf' e)
 ·show (if db < h.next then g db else _) = 0
  rw[if_pos hdn];exact g0
 ·show (if b < h.next then g b else _) = _
  unfold Go.Proofs.Ytbhblbffdmiepaa.upd at hb
  by_cases e:f'=f
  ·rw [if_pos e] at hb
   subst e
   by_cases hl:b<h.next
   ·rw [if_pos hl]
    rcases bw k hk b hb with hb'|hb'
    ·exact g1 f' k hf' hk b hb'
    ·omega
   ·rw [if_neg hl]
    rcases k with _|_|_|k
    ·rw[if_pos hb]
    ·rw[if_neg (bd 1 0 (by decide) (by decide) (by decide) b hb),if_pos hb]
    ·rw[if_neg (bd 2 0 (by decide) (by decide) (by decide) b hb),if_neg (bd 2 1 (by decide) (by decide) (by decide) b hb)]
    ·omega
  ·rw [if_neg e] at hb
   rw[if_pos (K.lt hf' hk b hb)];exact g1 f' k hf' hk b hb
 ·unfold Go.Proofs.Ytbhblbffdmiepaa.upd at hb
  by_cases e:f'=f
  ·rw [if_pos e] at hb
   rcases bw k hk b hb with hb'|hb'
   ·exact K.low f k hf hk b hb'
   ·exact K.nw b hb'
  ·rw [if_neg e] at hb
   exact K.low f' k hf' hk b hb
 ·unfold Go.Proofs.Ytbhblbffdmiepaa.upd
  by_cases e:f'=f
  ·rw [if_pos e]
   exact hok
  ·rw [if_neg e]
   obtain⟨o1,o2,o3,o4⟩:=K.ok f' hf';exact⟨o1,o2,by omega,by omega⟩
theorem DiskAt.tch{S:List Nat}(K:DiskAt lo h db D fs vs p ops B)(t:Tch S h h')(hS:∀b∈S,¬lo b∨h.next≤b):DiskAt lo h' db D fs vs p ops B:=by
 have hd:=K.hdb;have hl:=K.hlo;refine⟨K.row.tch t hd fun hb=>?_,Nat.lt_of_lt_of_le hd t.1,hl,K.len,K.cells,K.cp,K.co,fun f hf=>(K.mem f hf).tch t fun k hk b hb hm=>?_,K.own,K.low,K.ok,by rw[t.2.1,K.ex],K.hp,K.ho,fun b hb=>K.nw b (Nat.le_trans t.1 hb)⟩
 ·rcases hS _ hb with hb | hb
  ·exact hb hl
  ·omega
 ·have h2 := K.lt hf hk b hb
  rcases hS _ hm with hm|hm
  ·exact hm (K.low f k hf hk b hb)
  ·omega
theorem z343(b o:Nat)(h:AHeap):z6f Try.prog h .eql 23 true (some (.ptr b o)) (some AV.nilp)=some (.val (.bool false),h):=by kernel_rfl
theorem neqDisk(b o:Nat)(h:AHeap):z6f Try.prog h .neq 23 true (some (.ptr b o)) (some AV.nilp)=some (.val (.bool true),h):=by kernel_rfl
def z92(p:Int):Int:=if 0<p then p - 1 else p
theorem z2ce(K:DiskAt lo h db D fs vs p ops B)(hB:B<10000000):∃h' D',world n (d+1) 57 [.ptr db 0] h=some (.ret (.tup []),h')∧DiskAt lo h' db D' fs vs (z92 p) (ops+1) (B+1)∧Tch [db] h h':=by
 suffices hK:Wp (world n (d+1) 57 [.ptr db 0] h) fun r h'=>∃D',r=.ret (.tup [])∧DiskAt lo h' db D' fs vs (z92 p) (ops+1) (B+1)∧Tch [db] h h' by
  obtain⟨_,h',e,D',rfl,k⟩:=hK;exact⟨h',D',e,k⟩
 rw[z2a9];unfold zc2;have hp:=K.hp;have ho:=K.ho;have hl:=K.len
 have fin:∀{H:AHeap} {E:List AV},RowH H db z306 E→E.length=162→(∀i,i<160→E[i]? =D[i]?)→E[160]? =some (.int .i64 (z92 p))→E[161]? =some (.int .i64 ((ops+1:Nat):Int))→Tch [db] h H→DiskAt lo H db E fs vs (z92 p) (ops+1) (B+1):=by
  intro H E kr hE hr e1 e2 t;refine⟨kr,Nat.lt_of_lt_of_le K.hdb t.1,K.hlo,hE,fun f hf=>?_,e1,e2,fun f hf=>(K.mem f hf).tch t fun k hk b hb hm=>K.nd hf hk (List.mem_singleton.1 hm▸hb),K.own,K.low,fun f hf=>?_,by rw[t.2.1,K.ex],?_,by omega,fun b hb=>K.nw b (Nat.le_trans t.1 hb)⟩
  ·have hk := K.cells f hf
   have key:∀j,j<5→E[5*f+j]? =D[5*f+j]?:=fun j hj=>hr _ (by omega);exact⟨(key 0 (by decide)).trans hk.c0,(key 1 (by decide)).trans hk.c1,(key 2 (by decide)).trans hk.c2,(key 3 (by decide)).trans hk.c3,(key 4 (by decide)).trans hk.c4⟩
  ·obtain ⟨o1, o2, o3, o4⟩ := K.ok f hf
   exact⟨o1,o2,by omega,by omega⟩
  ·unfold z92
   split<;>omega
 have c1:=y5 K.row K.co;refine Wp.obind (z10 _ _) (Wp.obind (z7 _ _ _) (Wp.obind c1 (Wp.obind (z5 _ _) (yd (by omega) (by omega) (Wp.obind (z10 _ _) (Wp.obind (z7 _ _ _) (Wp.st1 K.row (show 0+161<D.length by omega) rfl fun h2 k2 t2 n2=>?_)))))))
 have g0:(D.set (0+161) (.int .i64 ((ops:Int)+1)))[0+160]? =some (.int .i64 p):=by
  rw[List.getElem?_set_ne (by omega)];exact K.cp
 have g1:(D.set (0+161) (.int .i64 ((ops:Int)+1)))[161]? =some (.int .i64 ((ops+1:Nat):Int)):=by
  rw[List.getElem?_set_self (by omega)];rfl
 refine Wp.obind (z10 _ _) (Wp.obind (z7 _ _ _) (Wp.obind (y5 k2 g0) (Wp.obind (z5 _ _) (Wp.lett (y9 fun k17 ek=>?_)))))
 by_cases h0:0<p
 ·refine yc (by rw [decide_eq_true_eq]; exact h0) (Wp.obind (z10 _ _) (Wp.obind (z7 _ _ _) (Wp.obind (y5 k2 g0) (Wp.obind (z5 _ _) (yd (by omega) (by omega) (Wp.obind (z10 _ _) (Wp.obind (z7 _ _ _) (Wp.st1 k2 (show 0 + 160 < _ by rw [List.length_set]; omega) rfl fun h3 k3 t3 n3 => ?_))))))))
  rw[ek];refine Wp.ret ⟨_,rfl,fin k3 (by rw[List.length_set,List.length_set];exact hl) (fun i hi=>by rw[List.getElem?_set_ne (by omega),List.getElem?_set_ne (by omega)]) ?_ (by rw[List.getElem?_set_ne (by omega)];exact g1) (t2.trans t3),t2.trans t3⟩;rw[List.getElem?_set_self (by rw[List.length_set];omega)];unfold z92;rw[if_pos h0]
 ·refine y8 (by rw [decide_eq_false_iff_not]; exact h0) ?_
  rw[ek];refine Wp.ret ⟨_,rfl,fin k2 (by rw[List.length_set];exact hl) (fun i hi=>by rw[List.getElem?_set_ne (by omega)]) ?_ g1 t2,t2⟩;have g0':=g0;rw[Nat.zero_add] at g0';unfold z92;rw[if_neg h0];exact g0'
theorem on_w(K:DiskAt lo h db D fs vs p ops B):world n (d+1) 72 [.ptr db 0] h=some (.ret (.bool (decide (p≠0))),h):=by
 apply Wp.eq;rw[z310];unfold z10e
 have e:(p != 0)=decide (p≠0):=by
  by_cases h0:p=0
  ·subst h0
   rfl
  ·rw[bne_iff_ne.2 h0,decide_eq_true h0]
 refine Wp.outK (neqDisk db 0 h) (Wp.obind (z13 _) (y9 fun j11 ej=>yc rfl (Wp.obind (z10 _ _) (Wp.obind (z7 _ _ _) (Wp.obind (y5 K.row (by rw[Nat.zero_add];exact K.cp)) (Wp.obind (z5 _ _) (Wp.lett ?_)))))));rw[ej,e];exact Wp.ret ⟨rfl,rfl⟩
theorem ops_w(K:DiskAt lo h db D fs vs p ops B):world n (d+1) 27 [.ptr db 0] h=some (.ret (.int .i64 (ops:Int)),h):=by
 apply Wp.eq;rw[z2c6];unfold ze0;exact Wp.outK (z343 db 0 h) (Wp.obind (z13 _) (y8 rfl (Wp.obind (z10 _ _) (Wp.obind (z7 _ _ _) (Wp.obind (y5 K.row (by rw[Nat.zero_add];exact K.co)) (Wp.obind (z5 _ _) (Wp.ret ⟨rfl,rfl⟩)))))))
theorem z37a(z:Int):world n (d+1) 52 [.int .i64 z] h=some (.ret (.bool (decide (0≤z∧z<32))),h):=by
 apply Wp.eq;rw[z358];refine y36 ?_
 suffices hK:Wp (z103 (world n d) n z h) fun r h'=>r=.ret (.bool (decide (0≤z∧z<32)))∧h'=h from hK.mono fun r h' ⟨e,t⟩=>⟨by rw[t];exact(Tch.refl [] h).above,by rw[e];rfl,e,rfl⟩
 unfold z103;refine Wp.lett (y9 fun j8 ej=>?_)
 by_cases h0:0≤z
 ·refine yc (by rw [decide_eq_true_eq]; exact h0) (Wp.lett ?_)
  rw[ej];have e:decide (z<32)=decide (0≤z∧z<32):=decide_eq_decide.2 ⟨fun h=>⟨h0,h⟩,fun h=>h.2⟩;rw[e];exact Wp.ret ⟨rfl,rfl⟩
 ·refine y8 (by rw [decide_eq_false_iff_not]; exact h0) ?_
  rw[ej,decide_eq_false (show ¬(0≤z∧z<32) from fun h=>h0 h.1)];exact Wp.ret ⟨rfl,rfl⟩
def zcf(p z:Int):Int:=if p=0 then 40 else if 0≤z∧z<32 then 0 else 2
theorem z23f(K:DiskAt lo h db D fs vs p ops B)(z:Int):world n (d+2) 47 [.ptr db 0,.int .i64 z] h=some (.ret (.int .i64 (zcf p z)),h):=by
 apply Wp.eq;rw[z212];unfold z7b;refine Wp.outK (z343 db 0 h) (Wp.obind (z13 _) (y8 rfl (Wp.callN (on_w K) (Wp.obind (z13 _) ?_))));unfold zcf
 by_cases h0:p=0
 ·rw [if_pos h0, decide_eq_false (show ¬ p ≠ 0 from fun h => h h0)]
  repeat(first|(with_reducible first|refine y2a (fun _ _=>?_)|refine y16 (fun _ _=>?_)|refine Wp.join2 (fun _ _=>?_))|((with_reducible first|refine yd ?_ ?_ ?_|refine y13 ?_ ?_ ?_|refine Wp.lettu8 ?_ ?_ ?_|refine y1e ?_ ?_ ?_);omega;omega)|(with_reducible refine Wp.lett ?_)|((with_reducible apply Wp.obind);first|(with_reducible first|exact z5 _ _|exact z13 _|exact z12 _|exact z10 _ _|exact z7 _ _ _|exact z2b _|exact z64 _ _|exact z63 _ _ _|exact z1bc _ _ _ _|assumption)|((with_reducible first|apply y5|apply RowH.ldAll);(with_reducible assumption);rfl))|((with_reducible refine yc ?_ ?_);first|(with_reducible first|rfl|assumption|exact Bool.not_false)|((with_reducible first|apply decide_eq_true|apply not_df|apply zc7|apply zf7);omega))|((with_reducible refine y8 ?_ ?_);first|(with_reducible first|rfl|assumption|exact Bool.not_true)|((with_reducible first|apply decide_eq_false|apply not_dt|apply z9b|apply zc8);omega))|((with_reducible first|apply Wp.callN|apply Wp.callK);(with_reducible assumption))|(with_reducible first|(apply Wp.outK;assumption)|(first|refine y34 (by assumption) ?_|refine y22 (by assumption) ?_|refine Wp.go2 (by assumption) ?_))|rw[z2d])
  exact Wp.ret ⟨rfl,rfl⟩
 ·rw [if_neg h0, decide_eq_true (show p ≠ 0 from h0)]
  refine Wp.lett (y8 rfl (Wp.callN (z37a z) (Wp.obind (z13 _) ?_)))
  by_cases h1:0≤z∧z<32
  ·rw [if_pos h1, decide_eq_true h1]
   repeat(first|(with_reducible first|refine y2a (fun _ _=>?_)|refine y16 (fun _ _=>?_)|refine Wp.join2 (fun _ _=>?_))|((with_reducible first|refine yd ?_ ?_ ?_|refine y13 ?_ ?_ ?_|refine Wp.lettu8 ?_ ?_ ?_|refine y1e ?_ ?_ ?_);omega;omega)|(with_reducible refine Wp.lett ?_)|((with_reducible apply Wp.obind);first|(with_reducible first|exact z5 _ _|exact z13 _|exact z12 _|exact z10 _ _|exact z7 _ _ _|exact z2b _|exact z64 _ _|exact z63 _ _ _|exact z1bc _ _ _ _|assumption)|((with_reducible first|apply y5|apply RowH.ldAll);(with_reducible assumption);rfl))|((with_reducible refine yc ?_ ?_);first|(with_reducible first|rfl|assumption|exact Bool.not_false)|((with_reducible first|apply decide_eq_true|apply not_df|apply zc7|apply zf7);omega))|((with_reducible refine y8 ?_ ?_);first|(with_reducible first|rfl|assumption|exact Bool.not_true)|((with_reducible first|apply decide_eq_false|apply not_dt|apply z9b|apply zc8);omega))|((with_reducible first|apply Wp.callN|apply Wp.callK);(with_reducible assumption))|(with_reducible first|(apply Wp.outK;assumption)|(first|refine y34 (by assumption) ?_|refine y22 (by assumption) ?_|refine Wp.go2 (by assumption) ?_))|rw[z2d])
   exact Wp.ret ⟨rfl,rfl⟩
  ·rw [if_neg h1, decide_eq_false h1]
   repeat(first|(with_reducible first|refine y2a (fun _ _=>?_)|refine y16 (fun _ _=>?_)|refine Wp.join2 (fun _ _=>?_))|((with_reducible first|refine yd ?_ ?_ ?_|refine y13 ?_ ?_ ?_|refine Wp.lettu8 ?_ ?_ ?_|refine y1e ?_ ?_ ?_);omega;omega)|(with_reducible refine Wp.lett ?_)|((with_reducible apply Wp.obind);first|(with_reducible first|exact z5 _ _|exact z13 _|exact z12 _|exact z10 _ _|exact z7 _ _ _|exact z2b _|exact z64 _ _|exact z63 _ _ _|exact z1bc _ _ _ _|assumption)|((with_reducible first|apply y5|apply RowH.ldAll);(with_reducible assumption);rfl))|((with_reducible refine yc ?_ ?_);first|(with_reducible first|rfl|assumption|exact Bool.not_false)|((with_reducible first|apply decide_eq_true|apply not_df|apply zc7|apply zf7);omega))|((with_reducible refine y8 ?_ ?_);first|(with_reducible first|rfl|assumption|exact Bool.not_true)|((with_reducible first|apply decide_eq_false|apply not_dt|apply z9b|apply zc8);omega))|((with_reducible first|apply Wp.callN|apply Wp.callK);(with_reducible assumption))|(with_reducible first|(apply Wp.outK;assumption)|(first|refine y34 (by assumption) ?_|refine y22 (by assumption) ?_|refine Wp.go2 (by assumption) ?_))|rw[z2d])
   exact Wp.ret ⟨rfl,rfl⟩
end
theorem idxF{b i:Nat}(h:i<32):z19c 32 5 (.ptr b (0+0)) (i:Int)=some (.ptr b (5*i)):=by
 have e:Nat.blt i 32=true:=by simpa using h
 show (match Nat.blt i 32 with|true=>some (AV.ptr b (0+0+i*5))|false=>none)=_;rw[e,show 0+0+i*5=5*i by omega]
section
variable {lo:Nat→Prop}{n d db:Nat}{h:AHeap}{D:List AV}{fs:Nat→FileS}{vs:Nat→Nat→AV}{p:Int}{ops B f:Nat}
def z1d0(x:FileS)(c:Chg):FileS:=⟨x.sure,do1 x.seen c,x.loose++[c]⟩
theorem z45f{x:FileS}{c:Chg}{B:Nat}(k:FileOk x B)(hl:z3d3 x.seen c):FileOk (z1d0 x c) (B+c.s.length+1):=by
 obtain⟨k1,k2,k3,k4⟩:=k;refine⟨?_,?_,?_,?_⟩
 ·show do1 x.seen c = doL x.sure (x.loose ++ [c])
  rw[z477, ←k1]
 ·exact z352 _ _ _ k2 (by show z3d3 (doL x.sure x.loose) c;rw[←k1];exact hl)
 ·show x.sure.u.length + z2cc (x.loose ++ [c]) ≤ _
  rw[z3ad];omega
 ·show (x.loose ++ [c]).length ≤ _
  rw[List.length_append,List.length_singleton];omega
theorem z3f0(hn:1000000<n)(K:DiskAt lo h db D fs vs p ops B)(hf:f<32){c:Chg}(hL:z3d3 (fs f).seen c)(hb:B+c.s.length<9000000):
  ∃h' D' vs' S,world n (d+2) 48 [.ptr db 0,.int .i64 (f:Int),.agg (z399 c)] h=some (.ret (.int .i64 0),h')∧DiskAt lo h' db D' (upd fs f (z1d0 (fs f) c)) vs' (z92 p) (ops+1) (B+c.s.length+2)∧Tch S h h'∧∀b∈S,lo b:=by
 suffices hK:Wp (world n (d+2) 48 [.ptr db 0,.int .i64 (f:Int),.agg (z399 c)] h) fun r h'=>∃D' vs' S,r=.ret (.int .i64 0)∧DiskAt lo h' db D' (upd fs f (z1d0 (fs f) c)) vs' (z92 p) (ops+1) (B+c.s.length+2)∧Tch S h h'∧∀b∈S,lo b by
  obtain⟨_,h',e,D',vs',S,rfl,k⟩:=hK;exact⟨h',D',vs',S,e,k⟩
 have C:=K.cells f hf;have Mf:=K.mem f hf;obtain⟨o1,o2,o3,o4⟩:=K.ok f hf;have hlen:=K.len;have hdb:=K.hdb;have hsl:=z134 (fs f).loose (fs f).sure;rw[←o1] at hsl;rw[z235];unfold z90;refine y18 (Mem.nil [] h) rfl fun h2 M2=>?_;have t2:=M2.tch;refine Wp.obind (z10 _ _) (Wp.obind (z7 _ _ _) (Wp.obind (idxF hf) (Wp.obind (z10 _ _) (Wp.obind (z7 _ _ _) (Wp.obind (RowH.ldAll M2.at0.1 rfl) (y23 M2 (z391 _ _ _ _) rfl (by rw[K.ex];rfl) fun h3 M3=>?_))))));have t3:=M3.tch;have hn2:=t2.1;have hh2:=M2.at0.2.1;have hh3:=M3.at0.2.1;have hne1:h.next≠h2.next:=by omega
 have rd:RdL h3 (db::z43 (vs f 1)) (.sl h2.next 0 1 3) [c]:=by
  refine⟨rfl,fun H t i hi=>?_⟩
  have hi0:i=0:=by
   have:i<1:=hi;omega
  subst hi0;refine⟨_,idx3 (by decide),(RowH.ldAll (M3.at0.1.tch t hh3 fun hm=>?_) rfl)⟩
  rcases List.mem_cons.1 hm with hm|hm
  ·omega
  ·have := K.lt hf (k := 1) (by decide) _ hm
   omega
 obtain⟨h4,v4,e4,K4⟩:=do_ok (n:=n) (d:=d) (T:=z306) (o:=5*f+2) (x:=(fs f).seen) hn (Nat.lt_of_lt_of_le hdb t3.1) (K.row.tch t3 hdb (by simp)) C.c2 C.c3 (Mf.seen.tch t3 (fun _ _=>by simp)) (K.nd hf (by decide)) (by rw[t3.2.1,K.ex]) rd (by show 1<1000000;decide) ⟨hL,trivial⟩ (by show _+(c.s.length+0)≤_;omega);refine Wp.callN e4 (Wp.obind (z10 _ _) (Wp.obind (z7 _ _ _) ?_));have hd4:doL (fs f).seen [c]=do1 (fs f).seen c:=rfl;rw[hd4] at K4
 have g4:((D.set (5*f+2) (.bool (do1 (fs f).seen c).th)).set (5*f+2+1) v4)[5*f+4]? =some (vs f 2):=by
  rw[List.getElem?_set_ne (by omega),List.getElem?_set_ne (by omega)];exact C.c4
 have hn34:=K4.tch.1
 have hb1:h.next ∉ db::z43 (vs f 1):=fun hm=>by
  rcases List.mem_cons.1 hm with hm|hm
  ·omega
  ·have := K.lt hf (k := 1) (by decide) _ hm
   omega
 have kb4:=M3.at1.1.tch K4.tch M3.at1.2.1 hb1;refine Wp.obind (y5 K4.row g4) (Wp.obind (RowH.ldAll kb4 rfl) (y23 (Mem.nil [] h4) (z391 _ _ _ _) rfl (by rw[K4.ex];rfl) fun h5 M5=>?_));have t5:=M5.tch;have hdb3:db<h3.next:=Nat.lt_of_lt_of_le hdb t3.1;have hdb4:db<h4.next:=Nat.lt_of_lt_of_le hdb3 hn34;have kr5:=K4.row.tch t5 hdb4 (by simp);refine Wp.chk (ze2 rfl (ze2 (z84 (by kernel_rfl) (y5 kr5 g4)) rfl)) ?_
 have dis12:∀b∈z43 (vs f 2),b ∉ db::z43 (vs f 1):=fun b hb hm=>by
  rcases List.mem_cons.1 hm with rfl|hm
  ·exact K.nd hf (by decide) hb
  ·exact K.ne hf (by decide) hf (by decide) (fun h=>absurd h.2 (by decide)) b hb hm
 have kl5:=((Mf.loose.tch t3 (fun _ _=>by simp)).tch K4.tch dis12).tch t5 (fun _ _=>by simp);obtain⟨h6,e6,kl6,t6⟩:=kl5.push M5.at0.1 (by omega) (by rw[t5.2.1,K4.ex]);refine Wp.outK e6 (Wp.obind (z10 _ _) (Wp.obind (z7 _ _ _) ?_));have hn5:=t5.1;have hn6:=t6.1;have hdb5:db<h5.next:=Nat.lt_of_lt_of_le hdb4 hn5;have kr6:=kr5.tch t6 hdb5 (K.nd hf (by decide));have l6:((D.set (5*f+2) (.bool (do1 (fs f).seen c).th)).set (5*f+2+1) v4).length=162:=by rw[List.length_set,List.length_set];exact hlen
 show Wp (Abs.obind (z22 h6 1 [AV.sl h5.next 0 ((fs f).loose.length+1) 3] (.ptr db (5*f+4))) _) _;refine Wp.st1 kr6 (show 5*f+4<_ by omega) rfl fun h7 k7 t7 n7=>?_
 -- the disk behind it
 have n35:h3.next≤h5.next:=Nat.le_trans hn34 hn5;have hv4:∀b∈z43 v4,b<h5.next:=fun b hb=>Nat.lt_of_lt_of_le (K4.buf.lt b hb) hn5;have hv4s:∀b∈z43 v4,b∈z43 (vs f 1)∨h.next≤b:=fun b hb=>(K4.sub b hb).imp id fun h=>Nat.le_trans t3.1 h
 have T:Tch (db::(z43 (vs f 1)++z43 (vs f 2))) h h7:=by
  refine((((t3.mono fun b hb=>nomatch hb).trans (K4.tch.mono fun b hb=>.inl ?_)).trans' t5 fun b hb=>nomatch hb).trans' t6 fun b hb=>.inl ?_).trans' t7 fun b hb=>.inl ?_
  ·rcases List.mem_cons.1 hb with hb | hb
   ·rw[hb];exact List.mem_cons_self
   ·exact List.mem_cons_of_mem _ (List.mem_append_left _ hb)
  ·exact List.mem_cons_of_mem _ (List.mem_append_right _ hb)
  ·rw[List.mem_singleton.1 hb];exact List.mem_cons_self
 have hw:∀b∈z43 (.sl h5.next 0 ((fs f).loose.length+1) 3),b=h5.next:=fun b hb=>List.mem_singleton.1 hb;have KU:=K.upd (B':=B+c.s.length+1) (x:=z1d0 (fs f) c) (w:=fun k=>if k=0 then vs f 0 else if k=1 then v4 else .sl h5.next 0 ((fs f).loose.length+1) 3) hf T (fun b hb=>?_) k7 (by rw[List.length_set];exact l6) ⟨?_,?_,?_,?_,?_⟩ (fun i hi=>?_) (fun k hk b hb=>?_) (fun k l hk hl hne b hb hb'=>?_) ⟨?_,?_,?_⟩ (z45f (K.ok f hf) hL) (by omega)
 ·obtain ⟨h8, D8, e8, K8, t8⟩ := z2ce (n := n) (d := d) KU (by omega)
  refine Wp.callN e8 (Wp.ret ⟨D8,_,db::(z43 (vs f 1)++z43 (vs f 2)),rfl,K8,T.trans' t8 fun b hb=>.inl (by rw[List.mem_singleton.1 hb];exact List.mem_cons_self),fun b hb=>?_⟩)
  rcases List.mem_cons.1 hb with hb|hb
  ·rw [hb]
   exact K.hlo
  ·rcases List.mem_append.1 hb with hb | hb
   ·exact K.low f 1 hf (by decide) b hb
   ·exact K.low f 2 hf (by decide) b hb
 ·rcases List.mem_cons.1 hb with hb | hb
  ·exact .inl hb
  ·rcases List.mem_append.1 hb with hb | hb
   ·exact .inr ⟨1,by decide,hb⟩
   ·exact .inr ⟨2,by decide,hb⟩
 ·rw [List.getElem?_set_ne (by omega), List.getElem?_set_ne (by omega), List.getElem?_set_ne (by omega)]
  exact C.c0
 ·rw [List.getElem?_set_ne (by omega), List.getElem?_set_ne (by omega), List.getElem?_set_ne (by omega)]
  exact C.c1
 ·rw [List.getElem?_set_ne (by omega), List.getElem?_set_ne (by omega), List.getElem?_set_self (by omega)]
  rfl
 ·rw [List.getElem?_set_ne (by omega), List.getElem?_set_self (by rw [List.length_set]; omega)]
  rfl
 ·rw [List.getElem?_set_self (by omega)]
  rfl
 ·rw[List.getElem?_set_ne (by omega),List.getElem?_set_ne (by omega),List.getElem?_set_ne (by omega)]
 ·rcases k with _ | _ | k
  ·exact .inl hb
  ·exact hv4s b hb
  ·right
   have:=hw b hb;omega
 ·have k0 : ∀ k, k < 3 → ∀ b ∈ z43 ((fun k => if k = 0 then vs f 0 else if k = 1 then v4 else AV.sl h5.next 0 ((fs f).loose.length + 1) 3) k), (k = 0 ∧ b ∈ z43 (vs f 0)) ∨ (k = 1 ∧ b ∈ z43 v4) ∨ (k = 2 ∧ b = h5.next) := by
   intro k hk b hb
   rcases k with _|_|_|k
   ·exact .inl ⟨rfl,hb⟩
   ·exact .inr (.inl ⟨rfl,hb⟩)
   ·exact .inr (.inr ⟨rfl,hw b hb⟩)
   ·omega
  have q01:b∈z43 (vs f 0)→b∈z43 v4→False:=fun h0 h1=>by
   rcases hv4s b h1 with h1|h1
   ·exact K.ne hf (by decide) hf (by decide) (fun h=>absurd h.2 (by decide)) b h0 h1
   ·have := K.lt hf (k := 0) (by decide) b h0
    omega
  have q02:b∈z43 (vs f 0)→b<h5.next:=fun h0=>by
   have:=K.lt hf (k:=0) (by decide) b h0;have:=t3.1;omega
  rcases k0 k hk b hb with⟨e1,b1⟩|⟨e1,b1⟩|⟨e1,b1⟩<;>rcases k0 l hl b hb' with⟨e2,b2⟩|⟨e2,b2⟩|⟨e2,b2⟩
  ·omega
  ·exact q01 b1 b2
  ·have := q02 b1
   omega
  ·exact q01 b2 b1
  ·omega
  ·have := hv4 b b1
   omega
  ·have := q02 b2
   omega
  ·have := hv4 b b2
   omega
  ·omega
 ·refine Mf.sure.tch T fun b hb hm => ?_
  rcases List.mem_cons.1 hm with rfl|hm
  ·exact K.nd hf (by decide) hb
  ·rcases List.mem_append.1 hm with hm | hm
   ·exact K.ne hf (by decide) hf (by decide) (fun h=>absurd h.2 (by decide)) b hb hm
   ·exact K.ne hf (by decide) hf (by decide) (fun h=>absurd h.2 (by decide)) b hb hm
 ·refine ((K4.buf.tch t5 (fun _ _ => by simp)).tch t6 fun b hb hm => ?_).tch t7 fun b hb hm => K4.ndb (List.mem_singleton.1 hm ▸ hb)
  rcases hv4s b hb with hb|hb
  ·exact K.ne hf (by decide) hf (by decide) (fun h=>absurd h.2 (by decide)) b hb hm
  ·have := K.lt hf (k := 2) (by decide) b hm
   omega
 ·refine kl6.tch t7 fun b hb hm => ?_
  have h1:=hw b hb;have h2:=List.mem_singleton.1 hm;omega
end
structure DS where
 fs:Nat→FileS
 p:Int
 ops:Nat
def At(lo:Nat→Prop)(h:AHeap)(db:Nat)(s:DS)(B:Nat):Prop:=∃D vs,DiskAt lo h db D s.fs vs s.p s.ops B
def z3fa(x:FileS)(c:Chg):Int:=if c.k=0 then (if (1048576:Int) - (x.seen.u.length:Int)<(c.s.length:Int) then 8 else 0) else if x.seen.th=false then 4 else if c.k=1∧(c.n<0∨(x.seen.u.length:Int)<c.n) then 5 else 0
def z17c(s:DS)(z:Int)(c:Chg):Int:=if zcf s.p z=0 then z3fa (s.fs z.toNat) c else zcf s.p z
def z10f(s:DS)(z:Int)(c:Chg):DS:=if z17c s z c=0 then ⟨upd s.fs z.toNat (z1d0 (s.fs z.toNat) c),z92 s.p,s.ops+1⟩ else s
def synF(x:FileS):FileS:=⟨x.seen,x.seen,[]⟩
def z1e3(s:DS)(z:Int):DS:=if zcf s.p z=0 then ⟨upd s.fs z.toNat (synF (s.fs z.toNat)),z92 s.p,s.ops+1⟩ else s
theorem z3bc{p z:Int}(h:zcf p z=0):p≠0∧∃f:Nat,z=(f:Int)∧f<32:=by
 unfold zcf at h
 split at h
 ·omega
 ·split at h
  ·exact⟨by assumption,z.toNat,by omega,by omega⟩
  ·omega
section
variable {lo:Nat→Prop}{n d db:Nat}{h:AHeap}{D:List AV}{fs:Nat→FileS}{vs:Nat→Nat→AV}{p:Int}{ops B f:Nat}{s:DS}
theorem DiskAt.mono{B':Nat}(K:DiskAt lo h db D fs vs p ops B)(hB:B≤B'):DiskAt lo h db D fs vs p ops B':=
 ⟨K.row,K.hdb,K.hlo,K.len,K.cells,K.cp,K.co,K.mem,K.own,K.low,fun f hf=>by obtain⟨o1,o2,o3,o4⟩:=K.ok f hf;exact⟨o1,o2,by omega,by omega⟩,K.ex,K.hp,by have:=K.ho;omega,K.nw⟩
theorem At.mono{B':Nat}(K:At lo h db s B)(hB:B≤B'):At lo h db s B':=by
 obtain⟨D,vs,K⟩:=K;exact⟨D,vs,K.mono hB⟩
theorem At.ex(K:At lo h db s B):h.ex=[]:=by
 obtain⟨D,vs,K⟩:=K;exact K.ex
theorem At.tch{S:List Nat}{h':AHeap}(K:At lo h db s B)(t:Tch S h h')(hS:∀b∈S,¬lo b∨h.next≤b):At lo h' db s B:=by
 obtain⟨D,vs,K⟩:=K;exact⟨D,vs,K.tch t hS⟩
theorem At.part{S:List Nat}{h':AHeap}(K:At lo h db s B)(t:Tch S h h')(hS:∀b∈S,¬lo b∨h.next≤b):At (fun b=>lo b∧(b<h.next∨h'.next≤b)) h' db s B:=by
 obtain⟨D,vs,K⟩:=K;have K':=K.tch t hS;exact⟨D,vs,K'.row,K'.hdb,⟨K'.hlo,.inl K.hdb⟩,K'.len,K'.cells,K'.cp,K'.co,K'.mem,K'.own,fun f k hf hk b hb=>⟨K'.low f k hf hk b hb,.inl (K.lt hf hk b hb)⟩,K'.ok,K'.ex,K'.hp,K'.ho,fun b hb=>⟨K'.nw b hb,.inr hb⟩⟩
def Does(lo:Nat→Prop)(db:Nat)(h:AHeap)(x:R)(e:Int)(s':DS)(B':Nat):Prop:=∃h' S,x=some (.ret (.int .i64 e),h')∧At lo h' db s' B'∧Tch S h h'∧∀b∈S,lo b
theorem Does.of{x:R}{e:Int}{s':DS}{B':Nat}(k:Wp x fun r h'=>r=.ret (.int .i64 e)∧∃S,At lo h' db s' B'∧Tch S h h'∧∀b∈S,lo b):Does lo db h x e s' B':=by
 obtain⟨_,h',e,rfl,S,k⟩:=k;exact⟨h',S,e,k⟩
theorem z1d9{f:Nat}{c:Chg}(h0:zcf s.p (f:Int)=0):z17c s (f:Int) c=z3fa (s.fs f) c:=by
 unfold z17c;rw[if_pos h0,Int.toNat_natCast]
theorem z304{f:Nat}{c:Chg}(h0:zcf s.p (f:Int)=0)(h1:z3fa (s.fs f) c=0):z10f s (f:Int) c=⟨upd s.fs f (z1d0 (s.fs f) c),z92 s.p,s.ops+1⟩:=by
 unfold z10f;rw[z1d9 h0,if_pos h1,Int.toNat_natCast]
theorem z264{z:Int}{c:Chg}(h1:z17c s z c≠0):z10f s z c=s:=by
 unfold z10f;rw[if_neg h1]
theorem z385{z:Int}{c:Chg}(h0:zcf s.p z≠0):z17c s z c=zcf s.p z:=by
 unfold z17c;rw[if_neg h0]
theorem z1dd{u:Bytes}{z:Int}(hn:1000000<n)(K:At lo h db s B)(hb:B+u.length<9000000):Does lo db h (world n (d+3) 23 [.ptr db 0,.int .i64 z,zc u] h) (z17c s z ⟨0,u,0⟩) (z10f s z ⟨0,u,0⟩) (B+u.length+2):=by
 apply Does.of;have KA:=K;obtain⟨D,vs,K⟩:=K;rw[z236];unfold z91;refine Wp.callN (z23f K z) (Wp.obind (z5 _ _) (Wp.lett ?_))
 by_cases h0:zcf s.p z=0
 ·obtain ⟨hp, f, rfl, hf⟩ := z3bc h0
  have C:=K.cells f hf;have Mf:=K.mem f hf;obtain⟨o1,o2,o3,o4⟩:=K.ok f hf;have hsl:=z134 (s.fs f).loose (s.fs f).sure;rw[←o1] at hsl;refine y8 (z9b h0) (Wp.obind (z10 _ _) (Wp.obind (z7 _ _ _) (Wp.obind (idxF hf) (Wp.obind (z7 _ _ _) (Wp.obind (z7 _ _ _) (Wp.obind (y5 K.row C.c3) (Wp.obind Mf.seen.len (yd (by omega) (by omega) ?_))))))));have hlu:=z2f u
  have hown:z3fa (s.fs f) ⟨0,u,0⟩=if (1048576:Int) - ((s.fs f).seen.u.length:Int)<(u.length:Int) then 8 else 0:=by
   unfold z3fa;rw[if_pos rfl]
  refine Wp.lett ?_
  by_cases h1:(1048576:Int) - ((s.fs f).seen.u.length:Int)<(u.length:Int)
  ·rw [if_pos h1] at hown
   have he:=(z1d9 h0).trans hown;rw[z264 (by omega),he];exact yc (by rw[decide_eq_true_eq];omega) (Wp.ret ⟨rfl,[],KA.mono (by omega),Tch.refl _ _,fun _ h=>nomatch h⟩)
  ·rw [if_neg h1] at hown
   rw[(z1d9 h0).trans hown,z304 h0 hown];refine y8 (by rw[decide_eq_false_iff_not];omega) ?_;obtain⟨h',D',vs',S,e,K',t,hS⟩:=z3f0 (n:=n) (d:=d) hn K hf (c:=⟨0,u,0⟩) (.inl rfl) hb;exact Wp.callN e (Wp.obind (z5 _ _) (Wp.ret ⟨rfl,S,⟨D',vs',K'⟩,t,hS⟩))
 ·rw [z264 (by rw [z385 h0]; exact h0), z385 h0]
  exact yc (zc7 h0) (Wp.ret ⟨rfl,[],KA.mono (by omega),Tch.refl _ _,fun _ h=>nomatch h⟩)
theorem cut_ok{z m:Int}(hn:1000000<n)(K:At lo h db s B)(hb:B<9000000):Does lo db h (world n (d+3) 33 [.ptr db 0,.int .i64 z,.int .i64 m] h) (z17c s z ⟨1,[],m⟩) (z10f s z ⟨1,[],m⟩) (B+2):=by
 apply Does.of;have KA:=K;obtain⟨D,vs,K⟩:=K;rw[z2c7];unfold ze1;refine Wp.callN (z23f K z) (Wp.obind (z5 _ _) (Wp.lett ?_))
 by_cases h0:zcf s.p z=0
 ·obtain ⟨hp, f, rfl, hf⟩ := z3bc h0
  have C:=K.cells f hf;have Mf:=K.mem f hf;have hlen:=Mf.seen.len;refine y8 (z9b h0) (Wp.obind (z10 _ _) (Wp.obind (z7 _ _ _) (Wp.obind (idxF hf) (Wp.obind (z7 _ _ _) (Wp.obind (z10 _ _) (Wp.obind (z7 _ _ _) (Wp.obind (y5 K.row C.c2) (Wp.obind (z13 _) (Wp.lett ?_)))))))))
  have hown:z3fa (s.fs f) ⟨1,[],m⟩=if (s.fs f).seen.th=false then 4 else if m<0∨((s.fs f).seen.u.length:Int)<m then 5 else 0:=by
   unfold z3fa;rw[if_neg (show ¬(1:Nat)=0 by omega)];simp only[true_and]
  cases hth:(s.fs f).seen.th with
  |false=>
   rw[hth,if_pos rfl] at hown;have he:=(z1d9 h0).trans hown;rw[z264 (by omega),he];exact yc rfl (Wp.ret ⟨rfl,[],KA.mono (by omega),Tch.refl _ _,fun _ h=>nomatch h⟩)
  |true=>
   rw[hth,if_neg (by decide)] at hown;refine y8 rfl (Wp.lett (y9 fun j ej=>?_))
   have bad:(m<0∨((s.fs f).seen.u.length:Int)<m)→∀H,H=h→Wp (j true H) fun r h'=>r=.ret (.int .i64 (z17c s (f:Int) ⟨1,[],m⟩))∧∃S,At lo h' db (z10f s (f:Int) ⟨1,[],m⟩) (B+2)∧Tch S h h'∧∀b∈S,lo b:=by
    intro h1 H hH;rw[if_pos h1] at hown;have he:=(z1d9 h0).trans hown;rw[z264 (by omega),he,ej,hH];exact yc rfl (Wp.ret ⟨rfl,[],KA.mono (by omega),Tch.refl _ _,fun _ h=>nomatch h⟩)
   by_cases h1:m<0
   ·exact yc (by rw[decide_eq_true_eq];exact h1) (bad (.inl h1) _ rfl)
   ·refine y8 (by rw [decide_eq_false_iff_not]; exact h1) ?_
    have step2:∀k:AV→R,(Wp (k (vs f 1)) fun r h'=>r=.ret (.int .i64 (z17c s (f:Int) ⟨1,[],m⟩))∧∃S,At lo h' db (z10f s (f:Int) ⟨1,[],m⟩) (B+2)∧Tch S h h'∧∀b∈S,lo b)→Wp (Abs.obind (ze h (.ptr db (5*f+2+1))) k) fun r h'=>r=.ret (.int .i64 (z17c s (f:Int) ⟨1,[],m⟩))∧∃S,At lo h' db (z10f s (f:Int) ⟨1,[],m⟩) (B+2)∧Tch S h h'∧∀b∈S,lo b:=fun k hk=>Wp.obind (y5 K.row C.c3) hk;refine Wp.obind (z10 _ _) (Wp.obind (z7 _ _ _) (step2 _ (Wp.obind hlen (Wp.lett ?_))))
    by_cases h2:((s.fs f).seen.u.length:Int)<m
    ·rw [decide_eq_true (show m > ((s.fs f).seen.u.length : Int) from h2)]
     exact bad (.inr h2) _ rfl
    ·rw [decide_eq_false (show ¬ m > ((s.fs f).seen.u.length : Int) from h2), ej]
     rw[if_neg (by omega)] at hown;rw[(z1d9 h0).trans hown,z304 h0 hown];refine y8 rfl ?_;obtain⟨h',D',vs',S,e,K',t,hS⟩:=z3f0 (n:=n) (d:=d) hn K hf (c:=⟨1,[],m⟩) (.inr (.inl ⟨rfl,(show (0:Int)≤m by omega),(show m≤((s.fs f).seen.u.length:Int) by omega)⟩)) (by show B+0<_;omega);exact Wp.callN e (Wp.obind (z5 _ _) (Wp.ret ⟨rfl,S,⟨D',vs',K'⟩,t,hS⟩))
 ·rw [z264 (by rw [z385 h0]; exact h0), z385 h0]
  exact yc (zc7 h0) (Wp.ret ⟨rfl,[],KA.mono (by omega),Tch.refl _ _,fun _ h=>nomatch h⟩)
end
theorem z153{r t:List AV}{k:Nat}(hr:r.length=k):∀(m f j:Nat),f<m→j<k→((List.replicate m r).flatten++t)[k*f+j]? =r[j]?
 |0,_,_,h,_=>absurd h (Nat.not_lt_zero _)
 |m+1,0,j,_,hj=>by
  rw[List.replicate_succ,List.flatten_cons,List.append_assoc,Nat.mul_zero,Nat.zero_add,List.getElem?_append_left (by omega)]
 |m+1,f+1,j,h,hj=>by
  rw[List.replicate_succ,List.flatten_cons,List.append_assoc,List.getElem?_append_right (by rw[Nat.mul_succ];omega),hr,show k*(f+1)+j - k=k*f+j by rw[Nat.mul_succ];omega];exact z153 hr m f j (by omega) hj
section
variable {lo:Nat→Prop}{n d db:Nat}{h:AHeap}{D:List AV}{fs:Nat→FileS}{vs:Nat→Nat→AV}{p:Int}{ops B f:Nat}{s:DS}
theorem DiskAt.setP{p':Int}{h':AHeap}(K:DiskAt lo h db D fs vs p ops B)(hp: -1≤p'∧p'<9223372036854775808)(kr:RowH h' db z306 (D.set 160 (.int .i64 p')))(t:Tch [db] h h'):DiskAt lo h' db (D.set 160 (.int .i64 p')) fs vs p' ops B:=by
 have hl:=K.len;refine⟨kr,Nat.lt_of_lt_of_le K.hdb t.1,K.hlo,by rw[List.length_set];exact hl,fun f hf=>?_,by rw[List.getElem?_set_self (by omega)],by rw[List.getElem?_set_ne (by omega)];exact K.co,fun f hf=>(K.mem f hf).tch t fun k hk b hb hm=>K.nd hf hk (List.mem_singleton.1 hm▸hb),K.own,K.low,K.ok,by rw[t.2.1,K.ex],hp,K.ho,fun b hb=>K.nw b (Nat.le_trans t.1 hb)⟩;have hk:=K.cells f hf;have key:∀j,j<5→(D.set 160 (.int .i64 p'))[5*f+j]? =D[5*f+j]?:=fun j hj=>by rw[List.getElem?_set_ne (by omega)]
 exact⟨(key 0 (by decide)).trans hk.c0,(key 1 (by decide)).trans hk.c1,(key 2 (by decide)).trans hk.c2,(key 3 (by decide)).trans hk.c3,(key 4 (by decide)).trans hk.c4⟩
theorem power_ok{m:Int}(hm:m<9223372036854775808)(K:At lo h db s B):Does lo db h (world n (d+1) 22 [.ptr db 0,.int .i64 m] h) 0 ⟨s.fs,if -1>m then -1 else m,s.ops⟩ B:=by
 apply Does.of;obtain⟨D,vs,K⟩:=K;rw[z26f];unfold zaf;refine Wp.outK (z343 db 0 h) (Wp.obind (z13 _) (y8 rfl (Wp.lett (Wp.obind (z10 _ _) (Wp.obind (z7 _ _ _) ?_)))));have hl:=K.len;refine Wp.st1 K.row (show 0+160<D.length by omega) rfl fun h2 k2 t2 n2=>Wp.ret ⟨rfl,[db],⟨_,vs,K.setP (by show -1≤(if -1>m then (-1:Int) else m)∧(if -1>m then (-1:Int) else m)<9223372036854775808;split<;>omega) ?_ t2⟩,t2,fun b hb=>by rw[List.mem_singleton.1 hb];exact K.hlo⟩;rw[Nat.zero_add] at k2;exact k2
abbrev emptyF:FileS:=⟨⟨false,[]⟩,⟨false,[]⟩,[]⟩
abbrev newS:DS:=⟨fun _=>emptyF, -1,0⟩
theorem new_ok(hx:h.ex=[]):∃h',world n (d+1) 8 [] h=some (.ret (.ptr h.next 0),h')∧At (fun b=>h.next≤b) h' h.next newS 0∧Tch [] h h':=by
 suffices hK:Wp (z1b6 (world n d) n h) fun r h'=>r=.ret (.ptr h.next 0)∧At (fun b=>h.next≤b) h' h.next newS 0∧Tch [] h h' by
  obtain⟨r,h',e,rfl,k⟩:=hK;refine⟨h',?_,k⟩;rw[z488,e];refine z37d ?_;show Nat.blt h.next h.next=false
  cases e:Nat.blt h.next h.next with
  |false=>rfl
  |true=>
   have:=blt_lt' e;omega
 unfold z1b6;exact Wp.outK (z43c (by kernel_rfl)) (Wp.ret ⟨rfl,⟨(List.replicate 32 [.bool false,.nsl,.bool false,.nsl,.nsl]).flatten++[.int .i64 (-1),.int .i64 0],fun _ _=>.nsl,RowH.new _ _ _,Nat.lt_succ_self _,Nat.le_refl _,by kernel_rfl,fun f hf=>(⟨z153 rfl 32 f 0 hf (by decide),z153 rfl 32 f 1 hf (by decide),z153 rfl 32 f 2 hf (by decide),z153 rfl 32 f 3 hf (by decide),z153 rfl 32 f 4 hf (by decide)⟩),by kernel_rfl,by kernel_rfl,fun f hf=>⟨.inl ⟨rfl,rfl⟩,.inl ⟨rfl,rfl⟩,.inl ⟨rfl,rfl⟩⟩,⟨fun _=>0,rfl,fun _ _ _ _ _ hb=>(nomatch hb)⟩,(fun _ _ _ _ _ hb=>(nomatch hb)),fun f hf=>⟨rfl,trivial,Nat.le_refl _,Nat.le_refl _⟩,hx,by decide,Nat.le_refl _,fun b hb=>Nat.le_trans (Nat.le_succ _) hb⟩,Tch.newH _ _ _ _⟩)
theorem synF_ok{x:FileS}(k:FileOk x B):FileOk (synF x) B:=by
 obtain⟨k1,k2,k3,k4⟩:=k;have:=z134 x.loose x.sure;rw[←k1] at this;exact⟨rfl,trivial,by show x.seen.u.length+0≤B;omega,Nat.zero_le _⟩
theorem z35d{z:Int}(hn:1000000<n)(K:At lo h db s B)(hb:B<900000):Does lo db h (world n (d+3) 34 [.ptr db 0,.int .i64 z] h) (zcf s.p z) (z1e3 s z) (B+1):=by
 apply Does.of;have KA:=K;obtain⟨D,vs,K⟩:=K;rw[z2aa];unfold zc3;refine Wp.callN (z23f K z) (Wp.obind (z5 _ _) (Wp.lett ?_))
 by_cases h0:zcf s.p z=0
 ·obtain ⟨hp, f, rfl, hf⟩ := z3bc h0
  have C:=K.cells f hf;have Mf:=K.mem f hf;obtain⟨o1,o2,o3,o4⟩:=K.ok f hf;have hlen:=K.len;have hdb:=K.hdb
  have es:z1e3 s (f:Int)=⟨upd s.fs f (synF (s.fs f)),z92 s.p,s.ops+1⟩:=by
   unfold z1e3;rw[if_pos h0,Int.toNat_natCast]
  rw[es,h0];refine y8 rfl (Wp.obind (z10 _ _) (Wp.obind (z7 _ _ _) (Wp.obind (idxF hf) (Wp.obind (z10 _ _) (Wp.obind (z7 _ _ _) (Wp.obind (z10 _ _) (Wp.obind (z7 _ _ _) (Wp.obind (y5 K.row C.c4) ?_))))))))
  have dis:∀b∈z43 (vs f 2),b ∉ db::z43 (vs f 0):=fun b hb hm=>by
   rcases List.mem_cons.1 hm with rfl|hm
   ·exact K.nd hf (by decide) hb
   ·exact K.ne hf (by decide) hf (by decide) (fun h=>absurd h.2 (by decide)) b hb hm
  have dis1:∀b∈z43 (vs f 1),b ∉ db::z43 (vs f 0):=fun b hb hm=>by
   rcases List.mem_cons.1 hm with rfl|hm
   ·exact K.nd hf (by decide) hb
   ·exact K.ne hf (by decide) hf (by decide) (fun h=>absurd h.2 (by decide)) b hb hm
  obtain⟨h4,v4,e4,K4⟩:=do_ok (n:=n) (d:=d+1) (T:=z306) (o:=5*f+0) (x:=(s.fs f).sure) hn hdb K.row C.c0 C.c1 Mf.sure (K.nd hf (by decide)) K.ex (Mf.loose.rd dis) (by omega) o2 (by omega);refine Wp.callN e4 (Wp.obind (z10 _ _) (Wp.obind (z7 _ _ _) ?_));rw[←o1] at K4;have hdb4:db<h4.next:=Nat.lt_of_lt_of_le hdb K4.tch.1;show Wp (Abs.obind (z22 h4 1 [AV.nsl] (.ptr db (5*f+4))) _) _;refine Wp.st1 K4.row (show 5*f+4<_ by rw[List.length_set,List.length_set];omega) rfl fun h7 k7 t7 n7=>?_;have T:Tch (db::z43 (vs f 0)) h h7:=K4.tch.trans' t7 fun b hb=>.inl (by rw[List.mem_singleton.1 hb];exact List.mem_cons_self);have KU:=K.upd (B':=B) (x:=synF (s.fs f)) (w:=fun k=>if k=0 then v4 else if k=1 then vs f 1 else .nsl) hf T (fun b hb=>?_) k7 (by rw[List.length_set,List.length_set,List.length_set];exact hlen) ⟨?_,?_,?_,?_,?_⟩ (fun i hi=>?_) (fun k hk b hb=>?_) (fun k l hk hl hne b hb hb'=>?_) ⟨?_,?_,?_⟩ (synF_ok (K.ok f hf)) (Nat.le_refl _)
  ·obtain ⟨h8, D8, e8, K8, t8⟩ := z2ce (n := n) (d := d + 1) KU (by omega)
   refine Wp.callN e8 (Wp.ret ⟨rfl,db::z43 (vs f 0),⟨D8,_,K8⟩,T.trans' t8 fun b hb=>.inl (by rw[List.mem_singleton.1 hb];exact List.mem_cons_self),fun b hb=>?_⟩)
   rcases List.mem_cons.1 hb with hb|hb
   ·rw [hb]
    exact K.hlo
   ·exact K.low f 0 hf (by decide) b hb
  ·rcases List.mem_cons.1 hb with hb | hb
   ·exact .inl hb
   ·exact .inr ⟨0,by decide,hb⟩
  ·show (((D.set (5 * f + 0) _).set (5 * f + 0 + 1) v4).set (5 * f + 4) AV.nsl)[5 * f + 0]? = _
   rw[List.getElem?_set_ne (by omega),List.getElem?_set_ne (by omega),List.getElem?_set_self (by omega)];rfl
  ·rw [List.getElem?_set_ne (by omega), List.getElem?_set_self (by rw [List.length_set]; omega)]
   rfl
  ·rw [List.getElem?_set_ne (by omega), List.getElem?_set_ne (by omega), List.getElem?_set_ne (by omega)]
   exact C.c2
  ·rw [List.getElem?_set_ne (by omega), List.getElem?_set_ne (by omega), List.getElem?_set_ne (by omega)]
   exact C.c3
  ·rw [List.getElem?_set_self (by rw [List.length_set, List.length_set]; omega)]
   rfl
  ·rw[List.getElem?_set_ne (by omega),List.getElem?_set_ne (by omega),List.getElem?_set_ne (by omega)]
  ·rcases k with _ | _ | k
   ·exact K4.sub b hb
   ·exact .inl hb
   ·exact nomatch hb
  ·have q01 : b ∈ z43 v4 → b ∈ z43 (vs f 1) → False := fun h0 h1 => by
    rcases K4.sub b h0 with h0|h0
    ·exact dis1 b h1 (List.mem_cons_of_mem _ h0)
    ·have := K.lt hf (k := 1) (by decide) b h1
     omega
   rcases k with _|_|k<;>rcases l with _|_|l
   ·omega
   ·exact q01 hb hb'
   ·exact nomatch hb'
   ·exact q01 hb' hb
   ·omega
   ·exact nomatch hb'
   ·exact nomatch hb
   ·exact nomatch hb
   ·exact nomatch hb
  ·exact K4.buf.tch t7 fun b hb hm=>K4.ndb (List.mem_singleton.1 hm▸hb)
  ·exact Mf.seen.tch T dis1
  ·exact .inl ⟨rfl,rfl⟩
 ·have es : z1e3 s z = s := by
   unfold z1e3;rw[if_neg h0]
  rw[es];exact yc (zc7 h0) (Wp.ret ⟨rfl,[],KA.mono (by omega),Tch.refl _ _,fun _ h=>nomatch h⟩)
end
structure StpR where
 k:Int
 f:Int
 n:Int
 s:Bytes
 v:AV
def StpOk(N:Nat)(h:AHeap)(x:StpR):Prop:=I64 x.k∧I64 x.f∧I64 x.n∧x.s.length≤reachBytes∧∃zs:List Int,Slc N h 1 x.v (zs.map fun z=>[.int .i64 z])∧(∀z∈zs,I64 z)∧zs.length*8≤reachBytes
theorem StpOk.one{N:Nat}{h:AHeap}{x:StpR}(k:StpOk N h x):x.v.one=true:=by
 obtain⟨_,_,_,_,zs,hs,_⟩:=k
 rcases hs.2 with⟨_,e|e⟩|⟨b,_,_,e,_⟩<;>rw[e]<;>rfl
section
variable {h h':AHeap}{v:AV}{u:Bytes}{l:List Chg}
theorem BufAt.conv(k:BufAt h v u):z10b Try.prog h TBy 9 (some v)=some (.val (zc u),h):=by
 rcases k with⟨rfl,rfl⟩|⟨c,rest,rfl,h2,h3⟩
 ·kernel_rfl
 ·refine z479 (by kernel_rfl) (by kernel_rfl) ?_
  have hcl:=zb7 u;have:=h2.part (o:=0) (n:=(z4b u).length) (by rw[List.length_append];omega);rw[List.drop_zero,List.take_left' rfl,hcl] at this;exact this
theorem eqBy_sl(b m:Nat)(h:AHeap):z6f Try.prog h .eql TBy true (some (.sl b 0 m 1)) (some AV.nsl)=some (.val (.bool false),h):=by kernel_rfl
theorem eqBy_nil(h:AHeap):z6f Try.prog h .eql TBy true (some .nsl) (some AV.nsl)=some (.val (.bool true),h):=by kernel_rfl
theorem bldBy0(h:AHeap):z183 Try.prog h TBy 0 []=z88 h 5 [] 0 1:=by kernel_rfl
theorem Wp.mnews0{h:AHeap}{e sz:Nat}{k:AV→AHeap→R}{Q:ARes→AHeap→Prop}{o:z9f}(e1:o=z88 h e [] 0 sz)(hex:z11c e h.ex=false)(hk:Wp (k (.sl h.next 0 0 sz) (newH h e [])) Q):Wp (Abs.outK o k) Q:=by
 refine Wp.outK (v:=.sl h.next 0 0 sz) (h1:=newH h e []) ?_ hk;rw[e1];unfold z88;rw[if_pos ⟨rfl,hex⟩];rfl
theorem clone_ok{n d:Nat}(k:BufAt h v u)(hx:h.ex=[])(hm:u.length≤1000000000):∃h' v',world n (d+1) 83 [v] h=some (.ret v',h')∧BufAt h' v' u∧Tch [] h h'∧∀b∈z43 v',h.next≤b:=by
 suffices hK:Wp (world n (d+1) 83 [v] h) fun r h'=>∃v',r=.ret v'∧BufAt h' v' u∧Tch [] h h'∧∀b∈z43 v',h.next≤b by
  obtain⟨_,h',e,v',rfl,k⟩:=hK;exact⟨h',v',e,k⟩
 rw[z162];unfold z3e;have he:Abs.elemOf Try.prog TBy=some 5:=by kernel_rfl
 have hu:z128 Try.prog TBy=true:=by kernel_rfl
 have hsz:Try.prog.cellsOf 5=1:=by kernel_rfl
 rcases k with⟨rfl,rfl⟩|⟨c,rest,rfl,h2,h3⟩
 ·exact Wp.outK (eqBy_nil h) (Wp.obind (z13 _) (yc rfl (Wp.ret ⟨_,rfl,.inl ⟨rfl,rfl⟩,Tch.refl _ _,fun _ h=>nomatch h⟩)))
 ·refine Wp.outK (eqBy_sl c u.length h) (Wp.obind (z13 _) (y8 rfl (Wp.mnews0 (bldBy0 h) (by rw [hx]; rfl) ?_)))
  have hex:z11c 5 (newH h 5 []).ex=false:=by rw[ex_newH,hx];rfl
  have kn:=RowH.new h 5 [];have hcl:=zb7 u;have k2:RowH (newH h 5 []) c 5 (z4b u++rest):=h2.tch (Tch.newH [] h _ _) h3 (fun h=>nomatch h);have hfit:=z4c (P:=Try.prog) (e:=5) (B:=1) (k:=0+u.length) fitBy (by omega) (by omega)
  have hpart:z57 (newH h 5 []) c 0 (z4b u).length=some (z4b u):=by
   have:=k2.part (o:=0) (n:=(z4b u).length) (by rw[List.length_append];omega);rw[List.drop_zero,List.take_left' rfl] at this;exact this
  have hfirst:∀m,m=u.length→z124 (newH h 5 []) 1 m (.sl c 0 u.length 1)=some (z4b u):=by
   intro m hm;rw[z123 (by omega),hm,Nat.mul_one, ←hcl];exact hpart
  by_cases h0:u=[]
  ·subst h0
   exact Wp.outK (z302 (b:=h.next) (o:=0) (m:=0) (n:=0) he hu hsz rfl rfl (hfirst 0 rfl) hfit hex) (Wp.ret ⟨_,rfl,.inr ⟨h.next,[],rfl,kn,Nat.lt_succ_self _⟩,Tch.newH _ _ _ _,fun b hb=>by rw[List.mem_singleton.1 hb];exact Nat.le_refl _⟩)
  ·obtain ⟨m, hm2⟩ : ∃ m, u.length = m + 1 := by
    cases u with
    |nil=>exact absurd rfl h0
    |cons a l=>exact⟨l.length,rfl⟩
   have hlen:z282 (.sl c 0 u.length 1)=some (m+1):=by rw[hm2];rfl
   have a1:=z138 (P:=Try.prog) (h:=newH h 5 []) (t:=TBy) (u:=TBy) (b:=h.next) (o:=0) (m:=0) (n:=m) (x:=.sl c 0 u.length 1) (cs:=[]) he hu hsz hlen (hfirst _ hm2.symm) (by rw[←hm2];exact hfit) (z1f2 u) hex (by
    have:=kn.part (o:=0) (n:=0) (Nat.le_refl _);exact this) kn.type
   refine Wp.outK a1 (Wp.ret ⟨_,rfl,.inr ⟨h.next+1,[],by rw[hm2,Nat.zero_add];rfl,?_,Nat.lt_succ_self _⟩,((Tch.newH [] h _ _).trans' (Tch.put (S:=[h.next]) (.inl (List.mem_singleton.2 rfl)) .dead) fun b hb=>.inr (by rw[List.mem_singleton.1 hb];exact Nat.le_refl _)).trans (Tch.newH _ _ _ _),fun b hb=>?_⟩)
   ·rw [List.append_nil]
    exact RowH.new ((newH h 5 []).put h.next .dead) _ _
   ·have hb2 : b = h.next + 1 := List.mem_singleton.1 hb
    omega
theorem z438{n d b T o:Nat}{D:List AV}{th:Bool}(kr:RowH h b T D)(hb:b<h.next)(h0:D[o]? =some (.bool th))(h1:D[o+1]? =some v)(k:BufAt h v u)(hx:h.ex=[])(hm:u.length≤1000000000):∃h' v',world n (d+2) 61 [.ptr b o] h=some (.ret (.agg [.bool th,v']),h')∧BufAt h' v' u∧Tch [] h h'∧∀b∈z43 v',h.next≤b:=by
 suffices hK:Wp (world n (d+2) 61 [.ptr b o] h) fun r h'=>∃v',r=.ret (.agg [.bool th,v'])∧BufAt h' v' u∧Tch [] h h'∧∀b∈z43 v',h.next≤b by
  obtain⟨_,h',e,v',rfl,k⟩:=hK;exact⟨h',v',e,k⟩
 rw[z211];unfold z7a;refine y12 (Mem.nil [] h) fun h2 M2=>?_;have t2:=M2.tch;have hn2:=t2.1;have kr2:=kr.tch t2 hb (fun h=>nomatch h);have k2:=k.tch t2 (fun _ _ h=>nomatch h);refine Wp.obind (z10 _ _) (Wp.obind (z7 _ _ _) (Wp.obind (y5 kr2 h0) (Wp.obind (z13 _) (Wp.obind (z10 _ _) (Wp.obind (z7 _ _ _) (Wp.obind (y5 kr2 h1) ?_))))));obtain⟨h3,v',e3,k3,t3,s3⟩:=clone_ok (n:=n) (d:=d) k2 (by rw[t2.2.1,hx]) hm;have hn3:=t3.1;refine Wp.callN e3 ?_;have kr3:=kr2.tch t3 (Nat.lt_of_lt_of_le hb hn2) (fun h=>nomatch h);refine Wp.chk (ze2 rfl (ze2 (z84 (by kernel_rfl) (y5 kr3 h0)) rfl)) ?_
 have hbld:z392 Try.prog 78 [(0,.bool th),(1,v')]=some [.bool th,v']:=by
  rcases k3 with⟨rfl,rfl⟩|⟨c,rest,rfl,_⟩<;>kernel_rfl
 refine Wp.obind hbld ?_;have hh2:=M2.at0.2.1;have kb3:=M2.at0.1.tch t3 hh2 (fun h=>nomatch h);rw[z2d];refine Wp.stAll kb3 rfl rfl (by rw[show [AV.bool th,v'].all AV.one=(true&&(v'.one&&true)) from rfl,k3.one.1];rfl) fun h4 k4 t4 n4=>Wp.obind (RowH.ldAll k4 rfl) (Wp.ret ⟨v',rfl,k3.tch t4 (fun b hb hm=>?_),(t2.trans t3).trans' t4 (fun b hb=>.inr (by rw[List.mem_singleton.1 hb];exact Nat.le_refl _)),fun b hb=>Nat.le_trans hn2 (s3 b hb)⟩);have h1:=s3 b hb;have h2:=List.mem_singleton.1 hm;omega
end
section
variable {lo:Nat→Prop}{n d db:Nat}{h:AHeap}{B:Nat}{s:DS}
def z16e(s:DS)(z:Int):Int:=if zcf s.p z=0 then (if (s.fs z.toNat).seen.th=true then 0 else 4) else zcf s.p z
def zb4(s:DS)(z:Int):Bytes:=if zcf s.p z=0 then (if (s.fs z.toNat).seen.th=true then (s.fs z.toNat).seen.u else []) else []
theorem read_a{z:Int}(K:At lo h db s B):world n (d+3) 31 [.ptr db 0,.int .i64 z] h=some (.ret (.tup [zc (zb4 s z),.int .i64 (z16e s z)]),h):=by
 apply Wp.eq;obtain⟨D,vs,K⟩:=K;rw[z2ac];unfold zc5;refine Wp.callN (z23f K z) (Wp.obind (z5 _ _) (Wp.lett ?_));unfold z16e zb4
 by_cases h0:zcf s.p z=0
 ·obtain ⟨hp, f, rfl, hf⟩ := z3bc h0
  have C:=K.cells f hf;have Mf:=K.mem f hf;refine y8 (z9b h0) ?_;rw[if_pos h0,if_pos h0,Int.toNat_natCast];refine Wp.obind (z10 _ _) (Wp.obind (z7 _ _ _) (Wp.obind (idxF hf) (Wp.obind (z7 _ _ _) (Wp.obind (z10 _ _) (Wp.obind (z7 _ _ _) (Wp.obind (y5 K.row C.c2) (Wp.obind (z13 _) (Wp.lett ?_))))))));cases hth:(s.fs f).seen.th with
  |false=>
   exact yc rfl (Wp.ret ⟨rfl,rfl⟩)
  |true=>
   refine y8 rfl (Wp.obind (z10 _ _) (Wp.obind (z7 _ _ _) ?_));have go:∀k:AV→R,(Wp (k (vs f 1)) fun r' h'=>r'=ARes.ret (AV.tup [zc (if true=true then (s.fs f).seen.u else []),AV.int IntKind.i64 (if true=true then 0 else 4)])∧h'=h)→Wp (Abs.obind (ze h (.ptr db (5*f+2+1))) k) fun r' h'=>r'=ARes.ret (AV.tup [zc (if true=true then (s.fs f).seen.u else []),AV.int IntKind.i64 (if true=true then 0 else 4)])∧h'=h:=fun k hk=>Wp.obind (y5 K.row C.c3) hk;exact go _ (Wp.outK Mf.seen.conv (Wp.obind (z12 _) (Wp.ret ⟨rfl,rfl⟩)))
 ·refine yc (zc7 h0) ?_
  rw[if_neg h0,if_neg h0];exact Wp.ret ⟨rfl,rfl⟩
def isF(z:Int):Prop:=0≤z∧z<32
instance (z:Int):Decidable (isF z):=inferInstanceAs (Decidable (0≤z∧z<32))
theorem loose_a{z:Int}(K:At lo h db s B):world n (d+2) 28 [.ptr db 0,.int .i64 z] h=some (.ret (.int .i64 (if isF z then ((s.fs z.toNat).loose.length:Int) else 0)),h):=by
 apply Wp.eq;obtain⟨D,vs,K⟩:=K;rw[z270];unfold zb0;refine Wp.outK (z343 db 0 h) (Wp.obind (z13 _) (y9 fun j ej=>y8 rfl (Wp.callN (z37a z) (Wp.obind (z13 _) (Wp.lett ?_)))))
 by_cases h0:0≤z∧z<32
 ·rw [decide_eq_true h0, if_pos (show isF z from h0), ej]
  obtain⟨f,rfl⟩:∃f:Nat,z=(f:Int):=⟨z.toNat,by omega⟩;have hf:f<32:=by omega
  have C:=K.cells f hf;have Mf:=K.mem f hf;have hlen:z18e (vs f 2)=some ((s.fs f).loose.length:Int):=(Mf.loose.rd (S:=[]) (fun _ _ h=>nomatch h)).1;rw[Int.toNat_natCast];exact y8 rfl (Wp.obind (z10 _ _) (Wp.obind (z7 _ _ _) (Wp.obind (idxF hf) (Wp.obind (z7 _ _ _) (Wp.obind (y5 K.row C.c4) (Wp.obind hlen (Wp.ret ⟨rfl,rfl⟩)))))))
 ·rw [decide_eq_false h0, if_neg (show ¬ isF z from h0), ej]
  exact yc rfl (Wp.ret ⟨rfl,rfl⟩)
theorem sure_a{z:Int}(K:At lo h db s B):world n (d+2) 26 [.ptr db 0,.int .i64 z] h=some (.ret (.tup [zc (if isF z then (s.fs z.toNat).sure.u else []),.bool (if isF z then (s.fs z.toNat).sure.th else false)]),h):=by
 apply Wp.eq;obtain⟨D,vs,K⟩:=K;rw[z2ab];unfold zc4;refine Wp.outK (z343 db 0 h) (Wp.obind (z13 _) (y9 fun j ej=>y8 rfl (Wp.callN (z37a z) (Wp.obind (z13 _) (Wp.lett ?_)))))
 by_cases h0:0≤z∧z<32
 ·rw [decide_eq_true h0, if_pos (show isF z from h0), if_pos (show isF z from h0), ej]
  obtain⟨f,rfl⟩:∃f:Nat,z=(f:Int):=⟨z.toNat,by omega⟩;have hf:f<32:=by omega
  have C:=K.cells f hf;have Mf:=K.mem f hf;rw[Int.toNat_natCast];exact y8 rfl (Wp.obind (z10 _ _) (Wp.obind (z7 _ _ _) (Wp.obind (idxF hf) (Wp.obind (z7 _ _ _) (Wp.obind (z10 _ _) (Wp.obind (z7 _ _ _) (Wp.obind (y5 K.row C.c1) (Wp.obind (z10 _ _) (Wp.obind (z7 _ _ _) (Wp.obind (y5 K.row C.c0) (Wp.obind (z13 _) (Wp.outK Mf.sure.conv (Wp.obind (z12 _) (Wp.chk (ze2 (z84 (by kernel_rfl) (y5 K.row C.c0)) rfl) (Wp.ret ⟨rfl,rfl⟩)))))))))))))))
 ·rw [decide_eq_false h0, if_neg (show ¬ isF z from h0), if_neg (show ¬ isF z from h0), ej]
  exact yc rfl (Wp.ret ⟨rfl,rfl⟩)
end
theorem z351:∀(l:List Chg) (x:Cont) (k:Nat),z322 x l→z322 x (l.take k)
 |_,_,0,_=>trivial
 |[],_,_+1,_=>trivial
 |_::l,_,k+1,h=>⟨h.1,z351 l _ k h.2⟩
theorem z2cb:∀(l:List Chg) (k:Nat),z2cc (l.take k)≤z2cc l
 |_,0=>Nat.zero_le _
 |[],_+1=>Nat.le_refl _
 |c::l,k+1=>by
  have:=z2cb l k;show c.s.length+z2cc (l.take k)≤c.s.length+z2cc l;omega
theorem z215:∀(l:List Chg) (k:Nat) (hk:k<l.length),z2cc (l.take k)+l[k].s.length≤z2cc l
 |[],_,h=>absurd h (Nat.not_lt_zero _)
 |c::l,0,_=>by
  show 0+c.s.length≤c.s.length+z2cc l;omega
 |c::l,k+1,h=>by
  have:=z215 l k (Nat.lt_of_succ_lt_succ h);show c.s.length+z2cc (l.take k)+(l[k]'(Nat.lt_of_succ_lt_succ h)).s.length≤c.s.length+z2cc l;omega
def z223(x:FileS)(kept:Int):Nat:=min kept.toNat x.loose.length
def z1f9(c:Chg)(torn:Int):Chg:=⟨0,c.s.take (min torn ((c.s.length:Int) - 1)).toNat,c.n⟩
def z35b(c:Chg)(torn:Int):Prop:=0<torn∧c.k=0∧c.s≠[]
instance (c:Chg)(torn:Int):Decidable (z35b c torn):=inferInstanceAs (Decidable (0<torn∧c.k=0∧c.s≠[]))
def zd6(x:FileS)(kept torn:Int):Cont:=
 match x.loose[z223 x kept]? with
 |some c=>if z35b c torn then do1 (doL x.sure (x.loose.take (z223 x kept))) (z1f9 c torn) else doL x.sure (x.loose.take (z223 x kept))
 |none=>doL x.sure (x.loose.take (z223 x kept))
def zcc(x:FileS)(kept torn:Int):FileS:=⟨zd6 x kept torn,zd6 x kept torn,[]⟩
theorem z34b{x:FileS}{B:Nat}(kept torn:Int)(k:FileOk x B):(zd6 x kept torn).u.length≤B:=by
 obtain⟨k1,k2,k3,k4⟩:=k;have h1:=z134 (x.loose.take (z223 x kept)) x.sure;have h2:=z2cb x.loose (z223 x kept);unfold zd6
 split
 ·rename_i c hc
  obtain⟨hk,rfl⟩:=List.getElem?_eq_some_iff.1 hc;have h3:=z215 x.loose _ hk
  split
  ·have h4 := z435 (doL x.sure (x.loose.take (z223 x kept))) (z1f9 x.loose[z223 x kept] torn)
   have h5:(z1f9 x.loose[z223 x kept] torn).s.length≤x.loose[z223 x kept].s.length:=by
    show (x.loose[z223 x kept].s.take _).length≤_;rw[List.length_take];exact Nat.min_le_right _ _
   omega
  ·omega
 ·omega
theorem z3ee{x:FileS}{B:Nat}(kept torn:Int)(k:FileOk x B):FileOk (zcc x kept torn) B:=
 ⟨rfl,trivial,z34b kept torn k,Nat.zero_le _⟩
section
variable {h H H':AHeap}{db T o:Nat}{D:List AV}{v v1 v2:AV}{x y:Cont}{l:List Chg}
theorem DoAt.trans(K:DoAt h H db T o D v v1 x)(K2:DoAt H H' db T o ((D.set o (.bool x.th)).set (o+1) v1) v1 v2 y):DoAt h H' db T o D v v2 y:=by
 have hn:=K.tch.1;refine⟨?_,K2.buf,K2.ndb,fun b hb=>?_,K.tch.trans' K2.tch fun b hb=>?_,K2.ex⟩
 ·have := K2.row
  rw[set4] at this;exact this
 ·rcases K2.sub b hb with hb | hb
  ·exact K.sub b hb
  ·omega
 ·rcases List.mem_cons.1 hb with rfl | hb
  ·exact .inl List.mem_cons_self
  ·exact(K.sub b hb).imp (List.mem_cons_of_mem _) id
theorem sl3_to(h:AHeap){c m k:Nat}(hk:k≤m):z113 Try.prog h z296 (.sl c 0 m 3) none (some (.int .i64 (k:Int)))=some (.val (.sl c 0 k 3),h):=
 z44c (P:=Try.prog) (e:=TChg) (k1:=.i64) (by kernel_rfl) (by kernel_rfl) (by kernel_rfl) hk
theorem LooseAt.take{S:List Nat}(k:LooseAt h v l)(hS:∀b∈z43 v,b ∉ S){j:Nat}(hj:j≤l.length):∃v',z113 Try.prog h z296 v none (some (.int .i64 (j:Int)))=some (.val v',h)∧RdL h S v' (l.take j):=by
 rcases k with⟨rfl,rfl⟩|⟨c,rfl,h2,h3⟩
 ·have hj0 : j = 0 := Nat.le_zero.1 hj
  subst hj0;exact⟨.nsl,by kernel_rfl,rfl,fun _ _ i hi=>absurd hi (Nat.not_lt_zero _)⟩
 ·have hl : (l.take j).length = j := by rw [List.length_take]; omega
  refine⟨.sl c 0 j 3,sl3_to h hj,by rw[hl];rfl,fun H t i hi=>⟨_,idx3 (by omega),?_⟩⟩;have k2:=h2.tch t h3 (hS c (List.mem_singleton.2 rfl));have:=chgs_ld (l:=l) (rest:=[]) (i:=i) (by rw[List.append_nil];exact k2) (by omega);rw[this,List.getElem_take]
end
section
variable {lo:Nat→Prop}{n d db:Nat}{h:AHeap}{D:List AV}{fs:Nat→FileS}{vs:Nat→Nat→AV}{p:Int}{ops B f:Nat}{s:DS}
theorem crash_do(hn:1000000<n)(K:DiskAt lo h db D fs vs p ops B)(hf:f<32)(hb:B<900000){kept torn:Int}(ht:torn<9223372036854775808){Q:ARes→AHeap→Prop}{call2:AHeap→R}(hk:∀H v,DoAt h H db z306 (5*f+0) D (vs f 0) v (zd6 (fs f) kept torn)→Wp (call2 H) Q):
  Wp (
 lett (if 0>kept then 0 else kept) fun (t8:Int)=>
 Abs.obind (z39 (.ptr db (5*f))) fun t10=>
 Abs.obind (z21 4 t10) fun t11=>
 Abs.obind (ze h t11) fun v12=>
 Abs.obind (z18e v12) fun t13=>
 lett (if t13<t8 then t13 else t8) fun (t14:Int)=>
 Abs.obind (z39 (.ptr db (5*f))) fun t16=>
 Abs.obind (z21 0 t16) fun t17=>
 Abs.obind (z39 (.ptr db (5*f))) fun t19=>
 Abs.obind (z21 4 t19) fun t20=>
 Abs.obind (ze h t20) fun v21=>
 Abs.outK (z113 Try.prog h z296 v21 none (some (.int .i64 t14))) fun v23 h_14=>
 Abs.callN (world n (d+2) 56 [t17,v23] h_14) fun _ h_16=>
 Abs.obind (z39 (.ptr db (5*f))) fun t27=>
 Abs.obind (z21 4 t27) fun t28=>
 Abs.obind (ze h_16 t28) fun v29=>
 Abs.obind (z18e v29) fun t30=>
 lett (decide (t14<t30)) fun (t31:Bool)=>
 lett (fun (t35:Bool) (h_25:AHeap)=>
  lett call2 fun k28=>
  ifB t35
  (
   Abs.obind (z39 (.ptr db (5*f))) fun t37=>
   Abs.obind (z21 4 t37) fun t38=>
   Abs.obind (ze h_25 t38) fun v39=>
   Abs.obind (z17a 3 v39 t14) fun t41=>
   Abs.obind (z28 h_25 3 t41) fun t42=>
   lett (newH h_25 TChg [.int .i64 0,.str 0 0,.int .i64 0]) fun h_50=>
   Abs.obind (z22 h_50 3 t42 (z1a h_25)) fun h_52=>
   Abs.obind (ze h_52 (AV.ptr (AHeap.next h_25) 0)) fun v44=>
   Abs.obind (z16 .i64 v44) fun t44=>
   lett ((t44:Int) == 0) fun (t45:Bool)=>
   lett (fun (t50:Bool) (h_58:AHeap)=>
    lett (fun (h_62:AHeap)=>
     k28 h_62) fun k61=>
    ifB t50
    (
     Abs.obind (ze h_58 (AV.ptr (AHeap.next h_25) 1)) fun v52=>
     Abs.obind (z2c v52) fun t52=>
     Abs.obind (ze h_58 (AV.ptr (AHeap.next h_25) 1)) fun v55=>
     Abs.obind (z2c v55) fun t55=>
     lett (IntKind.i64.wrap ((z65 t55) - 1)) fun (t57:Int)=>
     lett (if t57<torn then t57 else torn) fun (t58:Int)=>
     Abs.obind (z6c t52 0 t58) fun t59=>
     Abs.obind (z22 h_58 1 [zc t59] (AV.ptr (AHeap.next h_25) 1)) fun h_71=>
     Abs.obind (z39 (.ptr db (5*f))) fun t62=>
     Abs.obind (z21 0 t62) fun t63=>
     Abs.obind (z28 h_71 3 (z1a h_25)) fun t64=>
     Abs.outK (z183 Try.prog h_71 z296 1 [(0,.agg t64)]) fun v65 h_76=>
     Abs.callN (world n (d+2) 56 [t63,v65] h_76) fun _ h_78=>
     k61 h_78)
    (
     k61 h_58)) fun j50=>
   ifB t45
   (
    Abs.obind (ze h_52 (AV.ptr (AHeap.next h_25) 1)) fun v48=>
    Abs.obind (z2c v48) fun t48=>
    lett (!eqS t48 ([]:Bytes)) fun (t49:Bool)=>
    j50 t49 h_52)
   (
    j50 false h_52))
  (
   k28 h_25)) fun j35=>
 ifB t31
 (
  lett (decide (torn>0)) fun (t34:Bool)=>
  j35 t34 h_16)
 (
  j35 false h_16)) Q:=by
 have C:=K.cells f hf;have Mf:=K.mem f hf;obtain⟨o1,o2,o3,o4⟩:=K.ok f hf;have hlen:=K.len;have hdb:=K.hdb
 have dis:∀b∈z43 (vs f 2),b ∉ db::z43 (vs f 0):=fun b hb hm=>by
  rcases List.mem_cons.1 hm with rfl|hm
  ·exact K.nd hf (by decide) hb
  ·exact K.ne hf (by decide) hf (by decide) (fun h=>absurd h.2 (by decide)) b hb hm
 have hL:=(Mf.loose.rd dis).1;obtain⟨k,hkk⟩:∃k,k=z223 (fs f) kept:=⟨_,rfl⟩
 have hk14:(if ((fs f).loose.length:Int)<(if 0>kept then 0 else kept) then ((fs f).loose.length:Int) else (if 0>kept then 0 else kept))=(k:Int):=by
  rw[hkk];unfold z223
  split<;>split at * <;>omega
 have hkl:k≤(fs f).loose.length:=by
  rw[hkk];exact Nat.min_le_right _ _
 refine Wp.lett (Wp.obind (z10 _ _) (Wp.obind (z7 _ _ _) (Wp.obind (y5 K.row C.c4) (Wp.obind hL ?_))));rw[hk14];refine Wp.lett (Wp.obind (z10 _ _) (Wp.obind (z7 _ _ _) (Wp.obind (z10 _ _) (Wp.obind (z7 _ _ _) (Wp.obind (y5 K.row C.c4) ?_)))));obtain⟨v',e1,rd1⟩:=Mf.loose.take dis hkl;refine Wp.outK e1 ?_;have hst:=z2cb (fs f).loose k;obtain⟨h4,v4,e4,K4⟩:=do_ok (n:=n) (d:=d+1) (T:=z306) (o:=5*f+0) (x:=(fs f).sure) hn hdb K.row C.c0 C.c1 Mf.sure (K.nd hf (by decide)) K.ex rd1 (by rw[List.length_take];omega) (z351 _ _ k o2) (by omega);refine Wp.callN e4 ?_;have hdb4:db<h4.next:=Nat.lt_of_lt_of_le hdb K4.tch.1
 have g4:((D.set (5*f+0) (.bool (doL (fs f).sure ((fs f).loose.take k)).th)).set (5*f+0+1) v4)[5*f+4]? =some (vs f 2):=by
  rw[List.getElem?_set_ne (by omega),List.getElem?_set_ne (by omega)];exact C.c4
 refine Wp.obind (z10 _ _) (Wp.obind (z7 _ _ _) (Wp.obind (y5 K4.row g4) (Wp.obind hL (Wp.lett (y9 fun j35 e35=>?_)))))
 have hcc:zd6 (fs f) kept torn=match (fs f).loose[k]? with
   |some c=>if z35b c torn then do1 (doL (fs f).sure ((fs f).loose.take k)) (z1f9 c torn) else doL (fs f).sure ((fs f).loose.take k)
   |none=>doL (fs f).sure ((fs f).loose.take k):=by
  rw[hkk];rfl
 by_cases h1:k<(fs f).loose.length
 ·refine yc (by rw [decide_eq_true_eq]; omega) (Wp.lett ?_)
  rw[List.getElem?_eq_getElem h1] at hcc;obtain⟨c,hc⟩:∃c,c=(fs f).loose[k]:=⟨_,rfl⟩;rw[←hc] at hcc;have hcc:zd6 (fs f) kept torn=if z35b c torn then do1 (doL (fs f).sure ((fs f).loose.take k)) (z1f9 c torn) else doL (fs f).sure ((fs f).loose.take k):=hcc
  by_cases h2:0<torn
  ·rw [decide_eq_true (show torn > 0 from h2), e35]
   refine y9 fun k28 e28=>yc rfl ?_;obtain⟨pp,i5,r5⟩:=(Mf.loose.rd dis).2 h4 K4.tch k h1;rw[←hc] at r5;refine Wp.obind (z10 _ _) (Wp.obind (z7 _ _ _) (Wp.obind (y5 K4.row g4) (Wp.obind i5 (Wp.obind r5 (y12 (Mem.nil [] h4) fun h5 M5=>?_)))));rw[z2d];refine y1a M5 rfl rfl rfl fun h6 M6=>?_;have t6:=M6.tch;have hn6:=t6.1;refine y1b M6 (show (z399 c)[0]? =some (.int .i64 (c.k:Int)) from rfl) (Wp.obind (z5 _ _) (Wp.lett (y9 fun j50 e50=>?_)));have K6:DoAt h h6 db z306 (5*f+0) D (vs f 0) v4 (doL (fs f).sure ((fs f).loose.take k)):=⟨K4.row.tch t6 hdb4 (fun h=>nomatch h),K4.buf.tch t6 (fun _ _ h=>nomatch h),K4.ndb,K4.sub,K4.tch.trans' t6 (fun b hb=>nomatch hb),by rw[t6.2.1,K4.ex]⟩
   have no:¬z35b c torn→Wp (j50 false h6) Q:=by
    intro hno;rw[if_neg hno] at hcc;rw[e50];refine y9 fun k61 e61=>y8 rfl ?_;rw[e61,e28];exact hk h6 v4 (by rw[hcc];exact K6)
   by_cases h3:c.k=0
   ·refine yc (zf7 (by omega)) (y1b M6 (show (z399 c)[1]? = some (zc c.s) from rfl) (Wp.obind (z12 _) (Wp.lett ?_)))
    by_cases h4s:c.s=[]
    ·rw [z386.2 h4s]
     exact no (fun h=>h.2.2 h4s)
    ·rw [z3e8.2 h4s, e50]
     have hy:z35b c torn:=⟨h2,h3,h4s⟩;rw[if_pos hy] at hcc;have hsl:0<c.s.length:=List.length_pos_iff.2 h4s
     have hcs:c.s.length≤B:=by
      have:=z215 (fs f).loose k h1;rw[←hc] at this;omega
     have hll:=z2f c.s;refine y9 fun k61 e61=>yc rfl (y1b M6 (show (z399 c)[1]? =some (zc c.s) from rfl) (Wp.obind (z12 _) (y1b M6 (show (z399 c)[1]? =some (zc c.s) from rfl) (Wp.obind (z12 _) (yd (by omega) (by omega) ?_)))))
     have hmin:(if z65 c.s - 1<torn then z65 c.s - 1 else torn)=min torn ((c.s.length:Int) - 1):=by
      split<;>omega
     rw[hmin];have hs0:=z69 (l:=c.s) (a:=0) (b:=min torn ((c.s.length:Int) - 1)) (by omega) (by omega) (by omega)
     have hs1:(c.s.drop (0:Int).toNat).take ((min torn ((c.s.length:Int) - 1)).toNat - (0:Int).toNat)=(z1f9 c torn).s:=by
      rw[show (0:Int).toNat=0 from rfl,List.drop_zero,Nat.sub_zero];rfl
     rw[hs1] at hs0;refine Wp.lett (Wp.obind hs0 (y40 M6 (by show 1<3;decide) rfl fun h7 M7=>Wp.obind (z10 _ _) (Wp.obind (z7 _ _ _) (y24 M7 rfl ?_))))
     have hset:(z399 c).set 1 (zc (z1f9 c torn).s)=z399 (z1f9 c torn):=by
      show [AV.int .i64 (c.k:Int),zc (z1f9 c torn).s,.int .i64 c.n]=[AV.int .i64 ((0:Nat):Int),zc (z1f9 c torn).s,.int .i64 c.n];rw[h3]
     rw[hset] at M7 ⊢;have hx7:h7.ex=[]:=by rw[M7.tch.2.1,K4.ex]
     refine y23 M7 (z391 _ _ _ _) rfl (by rw[K4.ex];rfl) fun h8 M8=>?_;have t7:=M7.tch;have t8:=M8.tch;have K8:DoAt h h8 db z306 (5*f+0) D (vs f 0) v4 (doL (fs f).sure ((fs f).loose.take k)):=⟨K4.row.tch t8 hdb4 (fun h=>nomatch h),K4.buf.tch t8 (fun _ _ h=>nomatch h),K4.ndb,K4.sub,K4.tch.trans' t8 (fun b hb=>nomatch hb),by rw[t8.2.1,K4.ex]⟩;have hn7:=t7.1;have hh8:=M8.at0.2.1
     have rd:RdL h8 (db::z43 v4) (.sl h7.next 0 1 3) [z1f9 c torn]:=by
      refine⟨rfl,fun HH t i hi=>?_⟩
      have hi0:i=0:=by
       have:i<1:=hi;omega
      subst hi0;refine⟨_,idx3 (by decide),(RowH.ldAll (M8.at0.1.tch t hh8 fun hm=>?_) rfl)⟩
      rcases List.mem_cons.1 hm with hm|hm
      ·omega
      ·have := K4.buf.lt _ hm
       omega
     have gl:5*f+0+1<((D.set (5*f+0) (.bool (doL (fs f).sure ((fs f).loose.take k)).th)).set (5*f+0+1) v4).length:=by
      rw[List.length_set,List.length_set];omega
     have hdl:=z134 ((fs f).loose.take k) (fs f).sure;have hat:=z215 (fs f).loose k h1;rw[←hc] at hat
     have htl:(z1f9 c torn).s.length≤c.s.length:=by
      show (c.s.take _).length≤_;rw[List.length_take];exact Nat.min_le_right _ _
     obtain⟨h9,v9,e9,K9⟩:=do_ok (n:=n) (d:=d+1) (T:=z306) (o:=5*f+0) (D:=((D.set (5*f+0) (.bool (doL (fs f).sure ((fs f).loose.take k)).th)).set (5*f+0+1) v4)) (x:=doL (fs f).sure ((fs f).loose.take k)) hn (Nat.lt_of_lt_of_le hdb4 t8.1) K8.row (by rw[List.getElem?_set_ne (by omega),List.getElem?_set_self (by omega)]) (by rw[List.getElem?_set_self (by rw[List.length_set];omega)]) K8.buf K8.ndb K8.ex rd (by show 1<1000000;decide) ⟨.inl rfl,trivial⟩ (by show _+((z1f9 c torn).s.length+0)≤_;omega);refine Wp.callN e9 ?_;rw[e61,e28];exact hk h9 v9 (by rw[hcc];exact K8.trans K9)
   ·exact y8 (zc8 (by omega)) (no (fun h=>h3 h.2.1))
  ·rw [decide_eq_false (show ¬ torn > 0 from h2), e35]
   rw[if_neg (fun h=>h2 h.1)] at hcc;refine y9 fun k28 e28=>y8 rfl ?_;rw[e28];exact hk h4 v4 (by rw[hcc];exact K4)
 ·rw [List.getElem?_eq_none (by omega)] at hcc
  refine y8 (by rw[decide_eq_false_iff_not];omega) ?_;rw[e35];refine y9 fun k28 e28=>y8 rfl ?_;rw[e28];exact hk h4 v4 (by rw[hcc];exact K4)
end
abbrev TSt:Nat:=55
abbrev TFi:Nat:=58
abbrev TRD:Nat:=61
abbrev TCr:Nat:=67
abbrev z443:Nat:=56
noncomputable def ze7(x:Cont):List AV:=[.bool x.th,zc x.u]
noncomputable def z1f1(c:Chg):List AV:=[.int .i64 ((c.k:Int)+1),zc c.s,.int .i64 c.n]
def doR(x:Cont)(c:Chg):Cont:=if c.k=0 then ⟨true,x.u++c.s⟩ else if c.k=1 then ⟨true,x.u.take c.n.toNat⟩ else ⟨false,[]⟩
def z1df:Cont→List Chg→Prop
 |_,[]=>True
 |x,c::l=>(c.k=1→x.th=true)∧z1df (do1 x c) l
theorem doR_eq{x:Cont}{c:Chg}(h:c.k=1→x.th=true):doR x c=do1 x c:=by
 unfold doR do1
 split
 ·rfl
 ·split
  ·rename_i h1
   rw[h h1]
  ·rfl
theorem z308:∀(l:List Chg) (x:Cont) (c:Chg),z1df x l→(c.k=1→(doL x l).th=true)→z1df x (l++[c])
 |[],_,_,_,h=>⟨h,trivial⟩
 |a::l,x,c,h1,h2=>⟨h1.1,z308 l (do1 x a) c h1.2 h2⟩
theorem z309:∀(l:List Chg) (x:Cont) (i:Nat) (hi:i<l.length),z1df x l→(l[i].k=1→(doL x (l.take i)).th=true)
 |[],_,_,hi,_=>absurd hi (Nat.not_lt_zero _)
 |_::_,_,0,_,h=>h.1
 |a::l,x,i+1,hi,h=>z309 l (do1 x a) i (Nat.lt_of_succ_lt_succ hi) h.2
theorem z395:∀(l:List Chg) (x:Cont) (i:Nat) (hi:i<l.length),z322 x l→z3d3 (doL x (l.take i)) l[i]
 |[],_,_,hi,_=>absurd hi (Nat.not_lt_zero _)
 |_::_,_,0,_,h=>h.1
 |a::l,x,i+1,hi,h=>z395 l (do1 x a) i (Nat.lt_of_succ_lt_succ hi) h.2
section
variable {n d:Nat}{h:AHeap}{x:Cont}{c:Chg}
theorem done_r(hL:z3d3 x c)(hb:x.u.length+c.s.length≤1000000000):world n (d+1) 51 [.agg (ze7 x),.agg (z1f1 c)] h=some (.ret (.agg (ze7 (doR x c))),h):=by
 apply Wp.eq;rw[z3a0];refine y36 ?_
 suffices hK:Wp (z12e (world n d) n (ze7 x) (z1f1 c) h) fun r h'=>r=.ret (.agg (ze7 (doR x c)))∧Tch [] h h' from hK.mono fun r h' ⟨e,t⟩=>⟨t.above,by rw[e];rfl,e,rfl⟩
 unfold z12e;refine y18 (Mem.nil [] h) rfl fun h2 M2=>y18 M2 rfl fun h3 M3=>y12 M3 fun h4 M4=>?_;have g0:(z1f1 c)[0]? =some (.int .i64 ((c.k:Int)+1)):=rfl;have g1:(z1f1 c)[1]? =some (zc c.s):=rfl;have g2:(z1f1 c)[2]? =some (.int .i64 c.n):=rfl;have q1:(ze7 x)[1]? =some (zc x.u):=rfl;refine Wp.obind (z7 _ _ _) (y3c M4 g0 (Wp.obind (z5 _ _) (Wp.lett ?_)))
 rcases hL with h0|⟨h1,hc0,hc1⟩|h2
 ·have e : doR x c = ⟨true, x.u ++ c.s⟩ := if_pos h0
  rw[e];refine yc (zf7 (by omega)) (Wp.obind (z7 _ _ _) (y45 M4 q1 (Wp.obind (z12 _) (Wp.obind (z7 _ _ _) (y3c M4 g1 (Wp.obind (z12 _) (Wp.obind (zfa hb) ?_)))))));rw[z2d];exact y1a M4 rfl rfl rfl fun h5 M5=>y24 M5 rfl (Wp.ret ⟨rfl,M5.tch⟩)
 ·have e : doR x c = ⟨true, x.u.take c.n.toNat⟩ := by
   unfold doR;rw[if_neg (by omega),if_pos h1]
  rw[e];have hsl:=z69 (l:=x.u) (a:=0) (b:=c.n) (Int.le_refl _) hc0 hc1;rw[show (0:Int).toNat=0 from rfl,List.drop_zero,Nat.sub_zero] at hsl;refine y8 (zc8 (by omega)) (Wp.lett (yc (zf7 (by omega)) (Wp.obind (z7 _ _ _) (y45 M4 q1 (Wp.obind (z12 _) (Wp.obind (z7 _ _ _) (y3c M4 g2 (Wp.obind (z5 _ _) (Wp.obind hsl ?_)))))))));rw[z2d];exact y1a M4 rfl rfl rfl fun h5 M5=>y24 M5 rfl (Wp.ret ⟨rfl,M5.tch⟩)
 ·have e : doR x c = ⟨false, []⟩ := by
   unfold doR;rw[if_neg (by omega),if_neg (by omega)]
  rw[e];refine y8 (zc8 (by omega)) (Wp.lett (y8 (zc8 (by omega)) ?_));rw[z2d];exact y1a M4 rfl rfl rfl fun h5 M5=>y24 M5 rfl (Wp.ret ⟨rfl,M5.tch⟩)
end
def RL(h:AHeap)(v:AV)(l:List Chg):Prop:=(v=.nsl∧l=[])∨∃b,v=.sl b 0 l.length 3∧l≠[]∧RowH h b TCr (l.map z1f1).flatten∧b<h.next
theorem z2fb(l:List Chg):(l.map z1f1).flatten.length=l.length*3:=by
 have:=z2bc (sz:=3) (l.map z1f1) (fun r hr=>by
  obtain⟨c,_,rfl⟩:=List.mem_map.1 hr;rfl)
 rw[List.length_map] at this;exact this
theorem chgsR_one(l:List Chg):(l.map z1f1).flatten.all AV.one=true:=by
 rw[List.all_eq_true];intro x hx;obtain⟨r,hr,hxr⟩:=List.mem_flatten.1 hx;obtain⟨c,_,rfl⟩:=List.mem_map.1 hr
 rcases List.mem_cons.1 hxr with rfl|hxr
 ·rfl
 ·rcases List.mem_cons.1 hxr with rfl | hxr
  ·rfl
  ·rw [List.mem_singleton.1 hxr]
   rfl
section
variable {h h':AHeap}{v:AV}{l:List Chg}
theorem RL.tch{S:List Nat}(k:RL h v l)(t:Tch S h h')(hS:∀b∈z43 v,b ∉ S):RL h' v l:=by
 rcases k with k|⟨c,rfl,h1,h2,h3⟩
 ·exact .inl k
 ·exact .inr ⟨c,rfl,h1,h2.tch t h3 (hS c (List.mem_singleton.2 rfl)),Nat.lt_of_lt_of_le h3 t.1⟩
theorem RL.len(k:RL h v l):z18e v=some (l.length:Int):=by
 rcases k with⟨rfl,rfl⟩|⟨c,rfl,_⟩<;>rfl
theorem RL.lt(k:RL h v l):∀b∈z43 v,b<h.next:=by
 rcases k with⟨rfl,_⟩|⟨c,rfl,_,_,h3⟩
 ·exact fun b hb=>(nomatch hb)
 ·intro b hb
  rw[List.mem_singleton.1 hb];exact h3
theorem RL.at(k:RL h v l){i:Nat}(hi:i<l.length):∃b o,z43 v=[b]∧z17a 3 v (i:Int)=some (.ptr b o)∧z28 h 3 (.ptr b o)=some (z1f1 l[i])∧ze h (.ptr b o)=some (.int .i64 ((l[i].k:Int)+1))∧ze h (.ptr b (o+1))=some (zc l[i].s):=by
 rcases k with⟨rfl,rfl⟩|⟨b,rfl,h1,h2,h3⟩
 ·exact absurd hi (Nat.not_lt_zero _)
 ·have hl := z2fb l
  have hp:=z2ef (sz:=3) (l.map z1f1) i (by rw[List.length_map];exact hi) (fun r hr=>by
   obtain⟨c,_,rfl⟩:=List.mem_map.1 hr;rfl)
  have e:((l.map z1f1).flatten.drop (0+i*3)).take 3=z1f1 l[i]:=by
   rw[Nat.zero_add,hp,List.getElem_map]
  have hg:∀j,j<3→(l.map z1f1).flatten[0+i*3+j]? =(z1f1 l[i])[j]?:=fun j hj=>by
   rw[←e,List.getElem?_take_of_lt hj,List.getElem?_drop]
  refine⟨b,0+i*3,rfl,idx3 hi,?_,y5 h2 (hg 0 (by decide)),y5 h2 (hg 1 (by decide))⟩;rw[h2.ld (by omega),e]
theorem z469:fitB Try.prog TCr 32=true:=by kernel_rfl
theorem bldSlR(h:AHeap)(k:Int)(s:Bytes)(n:Int):z183 Try.prog h z443 1 [(0,.agg [.int .i64 k,zc s,.int .i64 n])]=z88 h TCr [.int .i64 k,zc s,.int .i64 n] 1 3:=by kernel_rfl
theorem RL.copy(k:RL h v l)(hm:l.length<20000000)(hx:h.ex=[]):∃v' h',z34 Try.prog h z443 z443 .nsl v=some (.val v',h')∧RL h' v' l∧Tch [] h h'∧∀b∈z43 v',h.next≤b:=by
 have he:Abs.elemOf Try.prog z443=some TCr:=by kernel_rfl
 have hu:z128 Try.prog z443=true:=by kernel_rfl
 have hsz:Try.prog.cellsOf TCr=3:=by kernel_rfl
 have hex:z11c TCr h.ex=false:=by rw[hx];rfl
 rcases k with⟨rfl,rfl⟩|⟨b,rfl,h1,h2,h3⟩
 ·refine ⟨.nsl, h, ?_, .inl ⟨rfl, rfl⟩, Tch.refl _ _, fun _ h => (nomatch h)⟩
  have hfit:=z4c (P:=Try.prog) (e:=TCr) (B:=32) (k:=0+0) z469 (by omega) (by omega);have hf:z124 h 3 0 .nsl=some []:=rfl;have hl:z282 .nsl=some 0:=rfl;unfold z128 at hu;unfold z34
  split at hu
  ·cases hu
  ·rename_i ud hni heq
   simp only[he,hl,heq,hsz,hf,hfit,hex,List.all_nil,and_self,if_true];rfl
  ·cases hu
 ·obtain ⟨m, hm2⟩ : ∃ m, l.length = m + 1 := by
   cases l with
   |nil=>exact absurd rfl h1
   |cons a t=>exact⟨t.length,rfl⟩
  have hl:=z2fb l
  have hf:z124 h 3 (m+1) (.sl b 0 l.length 3)=some (l.map z1f1).flatten:=by
   rw[z123 (by omega)];have:=h2.part (o:=0) (n:=(l.map z1f1).flatten.length) (by omega);rw[List.drop_zero,List.take_length] at this;rw[show (m+1)*3=(l.map z1f1).flatten.length by omega];exact this
  have a1:=z137 (P:=Try.prog) (h:=h) (t:=z443) (u:=z443) (n:=m) (x:=.sl b 0 l.length 3) he hu hsz (by rw[hm2];rfl) hf (z4c z469 (by omega) (by omega)) (chgsR_one l) hex;refine⟨_,_,a1,.inr ⟨h.next,by rw[hm2],h1,RowH.new _ _ _,Nat.lt_succ_self _⟩,Tch.newH _ _ _ _,fun b hb=>by rw[List.mem_singleton.1 hb];exact Nat.le_refl _⟩
theorem RL.push{b1:Nat}{c:Chg}(k:RL h v l)(kr:RowH h b1 TCr (z1f1 c))(hm:l.length<20000000)(hx:h.ex=[]):
  ∃h',z34 Try.prog h z443 z443 v (.sl b1 0 1 3)=some (.val (.sl h.next 0 (l.length+1) 3),h')∧RL h' (.sl h.next 0 (l.length+1) 3) (l++[c])∧Tch (z43 v) h h':=by
 have he:Abs.elemOf Try.prog z443=some TCr:=by kernel_rfl
 have hu:z128 Try.prog z443=true:=by kernel_rfl
 have hsz:Try.prog.cellsOf TCr=3:=by kernel_rfl
 have hex:z11c TCr h.ex=false:=by rw[hx];rfl
 have eb:((l++[c]).map z1f1).flatten=(l.map z1f1).flatten++z1f1 c:=by
  rw[List.map_append,List.flatten_append];show _++(z1f1 c++[])=_;rw[List.append_nil]
 have el:l.length+1=(l++[c]).length:=by rw[List.length_append,List.length_singleton]
 have hne:l++[c]≠[]:=by
  intro h;have:=congrArg List.length h;rw[List.length_append,List.length_singleton] at this;exact absurd this (Nat.succ_ne_zero _)
 rcases k with⟨rfl,rfl⟩|⟨b,rfl,h1,h2,h3⟩
 ·have a1 := z137 (P := Try.prog) (h := h) (t := z443) (u := z443) (n := 0) (x := .sl b1 0 1 3) he hu hsz rfl (z1ed kr rfl) (z4c z469 (by omega) (by omega)) rfl hex
  refine⟨_,a1,.inr ⟨h.next,by rw[el],hne,?_,Nat.lt_succ_self _⟩,Tch.newH _ _ _ _⟩;rw[eb];exact RowH.new _ _ _
 ·have hcl := z2fb l
  have a1:=z138 (P:=Try.prog) (h:=h) (t:=z443) (u:=z443) (b:=b) (o:=0) (m:=l.length) (n:=0) (x:=.sl b1 0 1 3) (cs:=(l.map z1f1).flatten) he hu hsz rfl (z1ed kr rfl) (z4c z469 (by omega) (by omega)) rfl hex (by
   have:=h2.part (o:=0) (n:=(l.map z1f1).flatten.length) (by omega);rw[List.drop_zero,List.take_length] at this;rw[show l.length*3=(l.map z1f1).flatten.length by omega];exact this) h2.type
  refine⟨_,a1,.inr ⟨h.next,by rw[el],hne,?_,Nat.lt_succ_self _⟩,(Tch.put (S:=[b]) (.inl (List.mem_singleton.2 rfl)) _).trans (Tch.newH _ _ _ _)⟩;rw[eb];exact RowH.new (h.put b .dead) _ _
end
def z47e(x:Cont)(l:List Chg)(B:Nat):Prop:=z322 x l∧z1df x l∧x.u.length+z2cc l≤B∧l.length≤B
section
variable {n d B:Nat}{h:AHeap}{x:Cont}{l:List Chg}{v:AV}
theorem z476(x:Cont)(l:List Chg){i:Nat}(hi:i<l.length):doL x (l.take (i+1))=do1 (doL x (l.take i)) l[i]:=by
 rw[List.take_succ_eq_append_getElem hi,z477]
theorem z3b3(ok:z47e x l B)(hB:B<1000000)(rl:RL h v l){h4:AHeap}{b1 b2:Nat}{k16:AHeap→R}{Q:ARes→AHeap→Prop}{y2:List AV}(hk:∀H,Abs.Mem [] h H [(h4.next,TSt,ze7 (doL x l)),(b2,TSt,y2),(b1,TFi,ze7 x++[v])]→Wp (k16 H) Q):
  ∀(r i fu:Nat) (H:AHeap),r+i=l.length→r<fu→Abs.Mem [] h H [(h4.next,TSt,ze7 (doL x (l.take i))),(b2,TSt,y2),(b1,TFi,ze7 x++[v])]→Wp (z117 (world n (d+1)) (.ptr b1 0) h4 k16 fu (i:Int) H) Q
 |_,_,0,_,_,hf,_=>by omega
 |0,i,fu+1,H,hi,_,M=>by
  rw[z16a];unfold zed;refine Wp.obind (z7 _ _ _) (y45 M (show (ze7 x++[v])[2]? =some v from rfl) (Wp.obind rl.len (Wp.lett (y8 (by rw[decide_eq_false_iff_not];omega) ?_))));rw[List.take_of_length_le (by omega)] at M;exact hk H M
 |r+1,i,fu+1,H,hi,hf,M=>by
  have hil:i<l.length:=by omega
  obtain⟨o1,o2,o3,o4⟩:=ok;have hst:=z215 l i hil;have hdl:=z134 (l.take i) x;obtain⟨b,o,hb,i1,r1,_⟩:=(rl.tch M.tch (fun _ _ h=>(nomatch h))).at hil;rw[z16a];unfold zed;refine Wp.obind (z7 _ _ _) (y45 M (show (ze7 x++[v])[2]? =some v from rfl) (Wp.obind rl.len (Wp.lett (yc (by rw[decide_eq_true_eq];omega) ?_))));rw[z2d];refine y24 M rfl (Wp.obind (z7 _ _ _) (y45 M (show (ze7 x++[v])[2]? =some v from rfl) (Wp.obind i1 (Wp.obind r1 (Wp.callN (done_r (n:=n) (d:=d) (z395 l x i hil o1) (by omega)) (Wp.obind (z2b _) (y1a M rfl rfl rfl fun h5 M5=>yd (by omega) (by omega) ?_)))))));rw[doR_eq (z309 l x i hil o2), ←z476 x l hil] at M5;rw[show (i:Int)+1=((i+1:Nat):Int) by omega];exact z3b3 ⟨o1,o2,o3,o4⟩ hB rl hk r (i+1) fu h5 (by omega) (by omega) M5
theorem seen_r(hn:1000000<n)(ok:z47e x l B)(hB:B<1000000)(rl:RL h v l):world n (d+2) 68 [.agg (ze7 x++[v])] h=some (.ret (.agg (ze7 (doL x l))),h):=by
 apply Wp.eq;rw[z39f];refine y36 ?_
 suffices hK:Wp (z12d (world n (d+1)) n (ze7 x++[v]) h) fun r h'=>r=.ret (.agg (ze7 (doL x l)))∧Tch [] h h' from hK.mono fun r h' ⟨e,t⟩=>⟨t.above,by rw[e];rfl,e,rfl⟩
 unfold z12d;have hv:v.one=true:=by rcases rl with⟨rfl,_⟩|⟨b,rfl,_⟩<;>rfl
 have hall:(ze7 x++[v]).all AV.one=true:=by
  show (true&&(true&&(v.one&&true)))=true;rw[hv];rfl
 refine y18 (Mem.nil [] h) hall fun h2 M2=>y12 M2 fun h4 M4=>?_
 have hr:∀H,Abs.Mem [] h H [(h2.next,TSt,[AV.bool false,AV.str 0 0]),(h.next,TFi,ze7 x++[v])]→z28 H 2 (.ptr h.next 0)=some (ze7 x):=fun H M=>by
  have:=M.at1.1.ld (o:=0) (n:=2) (by show 2≤3;decide);exact this
 refine Wp.obind (z7 _ _ _) (Wp.obind (hr _ M4) (y12 M4 fun h5 M5=>?_));rw[z2d,z2d];refine y1a M5 rfl rfl rfl fun h6 M6=>y9 fun k16 ek=>?_;obtain⟨_,_,_,o4⟩:=id ok;refine z3b3 (h4:=h4) (b1:=h.next) (b2:=h2.next) ok hB rl (fun H M=>?_) l.length 0 n h6 (Nat.add_zero _) (by omega) M6;rw[ek];exact y24 M rfl (Wp.sa1 M rfl rfl rfl fun h7 M7=>Wp.lr1 M7 rfl (Wp.ret ⟨rfl,M7.tch⟩))
end
section
variable {lo:Nat→Prop}{n d db:Nat}{h:AHeap}{D:List AV}{fs:Nat→FileS}{vs:Nat→Nat→AV}{p:Int}{ops B f:Nat}{s:DS}
theorem fcrash_ok(hn:1000000<n)(K:DiskAt lo h db D fs vs p ops B)(hf:f<32)(hb:B<900000){kept torn:Int}(ht:torn<9223372036854775808):
  ∃h' D' vs' S,world n (d+3) 38 [.ptr db (5*f),.int .i64 kept,.int .i64 torn] h=some (.ret (.tup []),h')∧DiskAt lo h' db D' (upd fs f (zcc (fs f) kept torn)) vs' p ops B∧Tch S h h'∧∀b∈S,lo b:=by
 suffices hK:Wp (world n (d+3) 38 [.ptr db (5*f),.int .i64 kept,.int .i64 torn] h) fun r h'=>r=.ret (.tup [])∧∃D' vs' S,DiskAt lo h' db D' (upd fs f (zcc (fs f) kept torn)) vs' p ops B∧Tch S h h'∧∀b∈S,lo b by
  obtain⟨_,h',e,rfl,D',vs',S,k⟩:=hK;exact⟨h',D',vs',S,e,k⟩
 rw[z26d];unfold zad;refine crash_do hn K hf hb ht (fun H v K4=>?_);have C:=K.cells f hf;have Mf:=K.mem f hf;have hlen:=K.len;have hdb:=K.hdb;have hcl:=z34b kept torn (K.ok f hf);have hdb4:db<H.next:=Nat.lt_of_lt_of_le hdb K4.tch.1
 have g0:((D.set (5*f+0) (.bool (zd6 (fs f) kept torn).th)).set (5*f+0+1) v)[5*f+0]? =some (.bool (zd6 (fs f) kept torn).th):=by
  rw[List.getElem?_set_ne (by omega),List.getElem?_set_self (by omega)]
 have g1:((D.set (5*f+0) (.bool (zd6 (fs f) kept torn).th)).set (5*f+0+1) v)[5*f+0+1]? =some v:=by
  rw[List.getElem?_set_self (by rw[List.length_set];omega)]
 obtain⟨h5,v5,e5,k5,t5,s5⟩:=z438 (n:=n) (d:=d) K4.row hdb4 g0 g1 K4.buf K4.ex (by omega);refine Wp.obind (z10 _ _) (Wp.obind (z7 _ _ _) (Wp.callN e5 (Wp.obind (z2b _) (Wp.obind (z10 _ _) (Wp.obind (z7 _ _ _) ?_)))));have hn5:=t5.1;have kr5:=K4.row.tch t5 hdb4 (fun h=>nomatch h);have hl4:((D.set (5*f+0) (.bool (zd6 (fs f) kept torn).th)).set (5*f+0+1) v).length=162:=by rw[List.length_set,List.length_set];exact hlen
 refine y43 kr5 (rfl:([.bool (zd6 (fs f) kept torn).th,v5]:List AV).length=2) (show 5*f+2+2≤_ by omega) (by rw[show [AV.bool (zd6 (fs f) kept torn).th,v5].all AV.one=(true&&(v5.one&&true)) from rfl,k5.one.1];rfl) fun h6 k6 t6 n6=>?_;rw[laid2 (show 5*f+2+1<_ by omega)] at k6;refine Wp.obind (z10 _ _) (Wp.obind (z7 _ _ _) ?_);show Wp (Abs.obind (z22 h6 1 [AV.nsl] (.ptr db (5*f+4))) _) _;refine Wp.st1 k6 (show 5*f+4<_ by rw[List.length_set,List.length_set];omega) rfl fun h7 k7 t7 n7=>?_;have hn4:=K4.tch.1;have td:∀b∈[db],b∈db::z43 (vs f 0)∨h.next≤b:=fun b hb=>.inl (by rw[List.mem_singleton.1 hb];exact List.mem_cons_self);have T:Tch (db::z43 (vs f 0)) h h7:=(((K4.tch.trans' t5 fun b hb=>nomatch hb).trans' t6 td).trans' t7 td)
 have nd5:db ∉ z43 v5:=fun hb=>by
  have:=s5 _ hb;omega
 have KU:=K.upd (B':=B) (x:=zcc (fs f) kept torn) (w:=fun k=>if k=0 then v else if k=1 then v5 else .nsl) hf T (fun b hb=>?_) k7 (by rw[List.length_set,List.length_set,List.length_set];exact hl4) ⟨?_,?_,?_,?_,?_⟩ (fun i hi=>?_) (fun k hk b hb=>?_) (fun k l hk hl hne b hb hb'=>?_) ⟨?_,?_,?_⟩ (z3ee kept torn (K.ok f hf)) (Nat.le_refl _)
 ·refine Wp.ret ⟨rfl, _, _, db :: z43 (vs f 0), KU, T, fun b hb => ?_⟩
  rcases List.mem_cons.1 hb with hb|hb
  ·rw [hb]
   exact K.hlo
  ·exact K.low f 0 hf (by decide) b hb
 ·rcases List.mem_cons.1 hb with hb | hb
  ·exact .inl hb
  ·exact .inr ⟨0,by decide,hb⟩
 ·rw [List.getElem?_set_ne (by omega), List.getElem?_set_ne (by omega), List.getElem?_set_ne (by omega)]
  exact g0
 ·rw [List.getElem?_set_ne (by omega), List.getElem?_set_ne (by omega), List.getElem?_set_ne (by omega)]
  exact g1
 ·rw [List.getElem?_set_ne (by omega), List.getElem?_set_ne (by omega), List.getElem?_set_self (by omega)]
  rfl
 ·rw [List.getElem?_set_ne (by omega), List.getElem?_set_self (by rw [List.length_set]; omega)]
  rfl
 ·rw [List.getElem?_set_self (by rw [List.length_set, List.length_set]; omega)]
  rfl
 ·rw[List.getElem?_set_ne (by omega),List.getElem?_set_ne (by omega),List.getElem?_set_ne (by omega),List.getElem?_set_ne (by omega),List.getElem?_set_ne (by omega)]
 ·rcases k with _ | _ | k
  ·exact K4.sub b hb
  ·right
   have:=s5 b hb;omega
  ·exact nomatch hb
 ·have q01 : b ∈ z43 v → b ∈ z43 v5 → False := fun h0 h1 => by
   have h2:=s5 b h1;have h3:=K4.buf.lt b h0;omega
  rcases k with _|_|k<;>rcases l with _|_|l
  ·omega
  ·exact q01 hb hb'
  ·exact nomatch hb'
  ·exact q01 hb' hb
  ·omega
  ·exact nomatch hb'
  ·exact nomatch hb
  ·exact nomatch hb
  ·exact nomatch hb
 ·have k1 := K4.buf.tch t5 (fun _ _ h => nomatch h)
  have k2:=k1.tch t6 fun b hb hm=>K4.ndb (List.mem_singleton.1 hm▸hb);exact k2.tch t7 fun b hb hm=>K4.ndb (List.mem_singleton.1 hm▸hb)
 ·have k2 := k5.tch t6 fun b hb hm => nd5 (List.mem_singleton.1 hm ▸ hb)
  exact k2.tch t7 fun b hb hm=>nd5 (List.mem_singleton.1 hm▸hb)
 ·exact .inl ⟨rfl,rfl⟩
def RdI(lo:Nat→Prop)(h:AHeap)(lv:AV)(zs:List Int):Prop:=z18e lv=some (zs.length:Int)∧∀S H,Tch S h H→(∀b∈S,lo b)→∀(i:Nat) (hi:i<zs.length),∃p,z17a 1 lv (i:Int)=some p∧ze H p=some (.int .i64 zs[i])
theorem RdI.tch{S:List Nat}{h h':AHeap}{lv:AV}{zs:List Int}(k:RdI lo h lv zs)(t:Tch S h h')(hS:∀b∈S,lo b):RdI lo h' lv zs:=
 ⟨k.1,fun S' H t' hS' i hi=>k.2 (S++S') H ((t.mono fun _ hb=>.inl (List.mem_append_left _ hb)).trans (t'.mono fun _ hb=>.inl (List.mem_append_right _ hb))) (fun b hb=>(List.mem_append.1 hb).elim (hS b) (hS' b)) i hi⟩
def z5d(zs:List Int)(f:Nat):Int:=zs.getD f 0
def z2f9(s:DS)(zs:List Int)(torn:Int):DS:=⟨fun f=>if f<32 then zcc (s.fs f) (z5d zs f) torn else s.fs f, -1,s.ops⟩
theorem z349(hn:1000000<n)(hb:B<900000){torn:Int}(ht:torn<9223372036854775808){lv:AV}{zs:List Int}(hz:zs.length<9223372036854775808){k11:AHeap→R}{Q:ARes→AHeap→Prop}(hk:∀S H,At lo H db ⟨fun f=>if f<32 then zcc (s.fs f) (z5d zs f) torn else s.fs f,s.p,s.ops⟩ B→Tch S h H→(∀b∈S,lo b)→Wp (k11 H) Q):
  ∀(r i fu:Nat) (H:AHeap) (S:List Nat),r+i=32→r<fu→At lo H db ⟨fun f=>if f<i then zcc (s.fs f) (z5d zs f) torn else s.fs f,s.p,s.ops⟩ B→Tch S h H→(∀b∈S,lo b)→RdI lo H lv zs→
   Wp (z9a (world n (d+3)) (.ptr db 0) lv torn k11 fu (i:Int) H) Q
 |_,_,0,_,_,_,hf,_,_,_,_=>by omega
 |0,i,fu+1,H,S,hi,hf,K,t,hS,rd=>by
  obtain rfl:i=32:=by omega
  rw[ze6];unfold z82;exact Wp.lett (y8 rfl (hk S H K t hS))
 |r+1,i,fu+1,H,S,hi,hf,K,t,hS,rd=>by
  obtain⟨D,vs,K⟩:=K;have hi32:i<32:=by omega
  rw[ze6];unfold z82;refine Wp.lett (yc (by rw[decide_eq_true_eq];omega) (Wp.obind rd.1 (Wp.lett (y9 fun k32 e32=>?_))))
  have next:∀z:Int,z=z5d zs i→Wp (k32 z H) Q:=by
   intro z hzk;rw[e32,hzk];refine Wp.obind (z10 _ _) (Wp.obind (z7 _ _ _) (Wp.obind (idxF hi32) ?_));obtain⟨h2,D2,vs2,S2,e2,K2,t2,hS2⟩:=fcrash_ok (n:=n) (d:=d) hn K hi32 hb (kept:=z5d zs i) ht;refine Wp.callN e2 (yd (by omega) (by omega) ?_);rw[show (i:Int)+1=((i+1:Nat):Int) by omega];refine z349 hn hb ht hz hk r (i+1) fu h2 (S++S2) (by omega) (by omega) ⟨D2,vs2,?_⟩ ((t.mono fun _ hb=>.inl (List.mem_append_left _ hb)).trans (t2.mono fun _ hb=>.inl (List.mem_append_right _ hb))) (fun b hb=>(List.mem_append.1 hb).elim (hS b) (hS2 b)) (rd.tch t2 hS2)
   have ef:upd (fun f=>if f<i then zcc (s.fs f) (z5d zs f) torn else s.fs f) i (zcc ((fun f=>if f<i then zcc (s.fs f) (z5d zs f) torn else s.fs f) i) (z5d zs i) torn)=fun f=>if f<i+1 then zcc (s.fs f) (z5d zs f) torn else s.fs f:=by
    funext j
    unfold Go.Proofs.Ytbhblbffdmiepaa.upd;dsimp only
    by_cases e:j=i
    ·subst e
     rw[if_pos rfl,if_neg (Nat.lt_irrefl _),if_pos (Nat.lt_succ_self _)]
    ·rw [if_neg e]
     by_cases e2:j<i
     ·rw[if_pos e2,if_pos (by omega)]
     ·rw[if_neg e2,if_neg (by omega)]
   rw[←ef];exact K2
  by_cases h1:i<zs.length
  ·obtain ⟨pp, q1, q2⟩ := rd.2 [] H (Tch.refl _ _) (fun _ h => nomatch h) i h1
   refine yc (by rw[decide_eq_true_eq];omega) (Wp.obind q1 (Wp.obind q2 (Wp.obind (z5 _ _) (next _ ?_))));unfold z5d;rw[List.getD_eq_getElem?_getD,List.getElem?_eq_getElem h1];rfl
  ·refine y8 (by rw [decide_eq_false_iff_not]; omega) (next _ ?_)
   unfold z5d;rw[List.getD_eq_getElem?_getD,List.getElem?_eq_none (by omega)];rfl
theorem z478(hn:1000000<n)(hb:B<900000){torn:Int}(ht:torn<9223372036854775808){lv:AV}{zs:List Int}(hz:zs.length<9223372036854775808)(K:At lo h db s B)(rd:RdI lo h lv zs):
  Does lo db h (world n (d+4) 13 [.ptr db 0,lv,.int .i64 torn] h) 0 (z2f9 s zs torn) B:=by
 apply Does.of;rw[z271];unfold zb1;refine Wp.outK (z343 db 0 h) (Wp.obind (z13 _) (y8 rfl (y9 fun k11 e11=>z349 (s:=s) hn hb ht hz (fun S H K' t hS=>?_) 32 0 n h [] rfl (by omega) ?_ (Tch.refl _ _) (fun _ h=>nomatch h) rd)))
 ·obtain ⟨D, vs, K'⟩ := K'
  have hl:=K'.len;rw[e11];refine Wp.obind (z10 _ _) (Wp.obind (z7 _ _ _) (Wp.st1 K'.row (show 0+160<D.length by omega) rfl fun h2 k2 t2 n2=>?_));rw[Nat.zero_add] at k2;refine Wp.ret ⟨rfl,db::S,⟨_,vs,K'.setP (p':= -1) ⟨Int.le_refl _,by decide⟩ k2 t2⟩,(t.mono fun _ hb=>.inl (List.mem_cons_of_mem _ hb)).trans' t2 fun b hb=>.inl (by rw[List.mem_singleton.1 hb];exact List.mem_cons_self),fun b hb=>?_⟩
  rcases List.mem_cons.1 hb with hb|hb
  ·rw [hb]
   exact K'.hlo
  ·exact hS b hb
 ·have e : (fun f => if f < 0 then zcc (s.fs f) (z5d zs f) torn else s.fs f) = s.fs := by
   funext j
   rw[if_neg (Nat.not_lt_zero _)]
  rw[e];exact K
end
open Go.RowKit Abs
structure RefC (D:List AV) (f:Nat) (x:FileS) (v:AV):Prop where
 c0:D[3*f]? =some (.bool x.sure.th)
 c1:D[3*f+1]? =some (zc x.sure.u)
 c2:D[3*f+2]? =some v
structure RefD (lo:Nat→Prop) (h:AHeap) (rb:Nat) (D:List AV) (vs:Nat→AV) (s:DS):Prop where
 row:RowH h rb TRD D
 hrb:rb<h.next
 nlo:¬lo rb
 len:D.length=98
 cells:∀f,f<32→RefC D f (s.fs f) (vs f)
 cp:D[96]? =some (.int .i64 s.p)
 co:D[97]? =some (.int .i64 (s.ops:Int))
 rl:∀f,f<32→RL h (vs f) (s.fs f).loose
 nb:∀f,f<32→∀b∈z43 (vs f),¬lo b∧b≠rb
def RefAt(lo:Nat→Prop)(h:AHeap)(rb:Nat)(s:DS):Prop:=∃D vs,RefD lo h rb D vs s
structure SOk (s:DS) (B:Nat):Prop where
 ok:∀f,f<32→FileOk (s.fs f) B
 lt:∀f,f<32→z1df (s.fs f).sure (s.fs f).loose
 hp: -1≤s.p∧s.p<9223372036854775808
 ho:s.ops≤B
theorem SOk.seen{s:DS}{B f:Nat}(k:SOk s B)(hf:f<32):z47e (s.fs f).sure (s.fs f).loose B:=by
 obtain⟨o1,o2,o3,o4⟩:=k.ok f hf;exact⟨o2,k.lt f hf,o3,o4⟩
theorem idxR{b i:Nat}(h:i<32):z19c 32 3 (.ptr b (0+0)) (i:Int)=some (.ptr b (3*i)):=by
 have e:Nat.blt i 32=true:=by simpa using h
 show (match Nat.blt i 32 with|true=>some (AV.ptr b (0+0+i*3))|false=>none)=_;rw[e,show 0+0+i*3=3*i by omega]
section
variable {lo lo':Nat→Prop}{n d rb B f:Nat}{h h':AHeap}{D:List AV}{vs:Nat→AV}{s:DS}
theorem RefD.tch{S:List Nat}(k:RefD lo h rb D vs s)(t:Tch S h h')(hS:∀b∈S,lo b∨h.next≤b)(hl:∀b,lo' b→b<h.next→lo b):RefD lo' h' rb D vs s:=by
 have h1:=k.hrb;refine⟨k.row.tch t h1 fun hm=>?_,Nat.lt_of_lt_of_le h1 t.1,fun hh=>k.nlo (hl _ hh h1),k.len,k.cells,k.cp,k.co,fun f hf=>(k.rl f hf).tch t fun b hb hm=>?_,fun f hf b hb=>⟨fun hh=>(k.nb f hf b hb).1 (hl _ hh ((k.rl f hf).lt b hb)),(k.nb f hf b hb).2⟩⟩
 ·rcases hS _ hm with hm | hm
  ·exact k.nlo hm
  ·omega
 ·have h2 := (k.rl f hf).lt b hb
  rcases hS _ hm with hm|hm
  ·exact(k.nb f hf b hb).1 hm
  ·omega
theorem RefAt.tch{S:List Nat}(k:RefAt lo h rb s)(t:Tch S h h')(hS:∀b∈S,lo b∨h.next≤b)(hl:∀b,lo' b→b<h.next→lo b):RefAt lo' h' rb s:=by
 obtain⟨D,vs,k⟩:=k;exact⟨D,vs,k.tch t hS hl⟩
theorem RefD.set{v:AV}{x:FileS}{D':List AV}(k:RefD lo h rb D vs s)(t:Tch [rb] h h')(hl:∀b,lo' b→b<h.next→lo b)(hf:f<32)(row:RowH h' rb TRD D')(hlen:D'.length=98)(hc:RefC D' f x v)(rest:∀i,(i<3*f∨3*f+3≤i)→D'[i]? =D[i]?)(hr:RL h' v x.loose)(hb:∀b∈z43 v,¬lo' b∧b≠rb):RefD lo' h' rb D' (upd vs f v) ⟨upd s.fs f x,s.p,s.ops⟩:=by
 have h1:=k.hrb;refine⟨row,Nat.lt_of_lt_of_le h1 t.1,fun hh=>k.nlo (hl _ hh h1),hlen,fun f' hf'=>?_,by rw[rest _ (by omega)];exact k.cp,by rw[rest _ (by omega)];exact k.co,fun f' hf'=>?_,fun f' hf' b hb'=>?_⟩
 ·show RefC D' f' (upd s.fs f x f') (upd vs f v f')
  unfold Go.Proofs.Ytbhblbffdmiepaa.upd
  by_cases e:f'=f
  ·rw [if_pos e, if_pos e, e]
   exact hc
  ·rw [if_neg e, if_neg e]
   have hk:=k.cells f' hf';have key:∀j,j<3→D'[3*f'+j]? =D[3*f'+j]?:=fun j hj=>rest _ (by omega);exact⟨(key 0 (by decide)).trans hk.c0,(key 1 (by decide)).trans hk.c1,(key 2 (by decide)).trans hk.c2⟩
 ·show RL h' (upd vs f v f') (upd s.fs f x f').loose
  unfold Go.Proofs.Ytbhblbffdmiepaa.upd
  by_cases e:f'=f
  ·rw [if_pos e, if_pos e]
   exact hr
  ·rw [if_neg e, if_neg e]
   exact(k.rl f' hf').tch t fun b hb' hm=>(k.nb f' hf' b hb').2 (List.mem_singleton.1 hm)
 ·unfold Go.Proofs.Ytbhblbffdmiepaa.upd at hb'
  by_cases e:f'=f
  ·rw [if_pos e] at hb'
   exact hb b hb'
  ·rw [if_neg e] at hb'
   exact⟨fun hh=>(k.nb f' hf' b hb').1 (hl _ hh ((k.rl f' hf').lt b hb')),(k.nb f' hf' b hb').2⟩
theorem RefD.po{p':Int}{o':Nat}{D':List AV}(k:RefD lo h rb D vs s)(t:Tch [rb] h h')(hl:∀b,lo' b→b<h.next→lo b)(row:RowH h' rb TRD D')(hlen:D'.length=98)(rest:∀i,i<96→D'[i]? =D[i]?)(c0:D'[96]? =some (.int .i64 p'))(c1:D'[97]? =some (.int .i64 (o':Int))):RefD lo' h' rb D' vs ⟨s.fs,p',o'⟩:=by
 have h1:=k.hrb;refine⟨row,Nat.lt_of_lt_of_le h1 t.1,fun hh=>k.nlo (hl _ hh h1),hlen,fun f hf=>?_,c0,c1,fun f hf=>(k.rl f hf).tch t fun b hb hm=>(k.nb f hf b hb).2 (List.mem_singleton.1 hm),fun f hf b hb=>⟨fun hh=>(k.nb f hf b hb).1 (hl _ hh ((k.rl f hf).lt b hb)),(k.nb f hf b hb).2⟩⟩;have hk:=k.cells f hf;have key:∀j,j<3→D'[3*f+j]? =D[3*f+j]?:=fun j hj=>rest _ (by omega);exact⟨(key 0 (by decide)).trans hk.c0,(key 1 (by decide)).trans hk.c1,(key 2 (by decide)).trans hk.c2⟩
def z1fa(p z e:Int):Int:=if p=0 then 40 else if 0≤z∧z<32 then e else 2
theorem step_r(K:RefD lo h rb D vs s)(ho:SOk s B)(hB:B<1000000)(z e:Int)(hl:∀b,lo' b→b<h.next→lo b):
  ∃h',world n (d+1) 50 [.ptr rb 0,.int .i64 z,.int .i64 e] h=some (.ret (.int .i64 (z1fa s.p z e)),h')∧Tch [rb] h h'∧(z1fa s.p z e≠0→h'=h)∧(z1fa s.p z e=0→∃D',RefD lo' h' rb D' vs ⟨s.fs,z92 s.p,s.ops+1⟩∧h'.next=h.next):=by
 suffices hK:Wp (world n (d+1) 50 [.ptr rb 0,.int .i64 z,.int .i64 e] h) fun r h'=>r=.ret (.int .i64 (z1fa s.p z e))∧Tch [rb] h h'∧(z1fa s.p z e≠0→h'=h)∧(z1fa s.p z e=0→∃D',RefD lo' h' rb D' vs ⟨s.fs,z92 s.p,s.ops+1⟩∧h'.next=h.next) by
  obtain⟨_,h',e,rfl,k⟩:=hK;exact⟨h',e,k⟩
 rw[z269];unfold za3;have hp:=ho.hp;have hoo:=ho.ho;have hlen:=K.len;refine Wp.obind (z10 _ _) (Wp.obind (z7 _ _ _) (Wp.obind (y5 K.row (by rw[Nat.zero_add];exact K.cp)) (Wp.obind (z5 _ _) (Wp.lett ?_))))
 by_cases h0:s.p=0
 ·have e1 : z1fa s.p z e = 40 := if_pos h0
  rw[e1];exact yc (zf7 h0) (Wp.ret ⟨rfl,Tch.refl _ _,fun _=>rfl,fun h=>absurd h (by decide)⟩)
 refine y8 (zc8 h0) (Wp.lett (y9 fun j19 ej=>?_))
 by_cases h1:0≤z∧z<32
 ·have e1 : z1fa s.p z e = e := by
   unfold z1fa;rw[if_neg h0,if_pos h1]
  rw[e1];refine y8 (by rw[decide_eq_false_iff_not];omega) (Wp.lett ?_);rw[decide_eq_false (show ¬z≥32 by omega),ej];refine y8 rfl (Wp.lett ?_)
  by_cases h2:e=0
  ·subst h2
   refine y8 rfl (Wp.obind (z10 _ _) (Wp.obind (z7 _ _ _) (Wp.obind (y5 K.row (by rw[Nat.zero_add];exact K.cp)) (Wp.obind (z5 _ _) (Wp.lett (y9 fun k27 ek=>?_))))))
   have fin:∀(H:AHeap) (E:List AV),RowH H rb TRD E→Tch [rb] h H→H.next=h.next→E.length=98→(∀i,i<96→E[i]? =D[i]?)→E[96]? =some (.int .i64 (z92 s.p))→E[97]? =some (.int .i64 (s.ops:Int))→Wp (k27 H) fun r h'=>r=.ret (.int .i64 0)∧Tch [rb] h h'∧((0:Int)≠0→h'=h)∧((0:Int)=0→∃D',RefD lo' h' rb D' vs ⟨s.fs,z92 s.p,s.ops+1⟩∧h'.next=h.next):=by
    intro H E kr t hn hE hr q0 q1;rw[ek];refine Wp.obind (z10 _ _) (Wp.obind (z7 _ _ _) (Wp.obind (y5 kr (by rw[Nat.zero_add];exact q1)) (Wp.obind (z5 _ _) (yd (by omega) (by omega) (Wp.obind (z10 _ _) (Wp.obind (z7 _ _ _) (Wp.st1 kr (show 0+97<E.length by omega) rfl fun h3 k3 t3 n3=>?_)))))));have T:=t.trans t3;refine Wp.ret ⟨rfl,T,fun h=>absurd rfl h,fun _=>⟨_,K.po (p':=z92 s.p) (o':=s.ops+1) T hl k3 (by rw[List.length_set];exact hE) (fun i hi=>by rw[List.getElem?_set_ne (by omega)];exact hr i hi) (by rw[List.getElem?_set_ne (by omega)];exact q0) ?_,by omega⟩⟩;rw[Nat.zero_add,List.getElem?_set_self (by omega)];rfl
   by_cases h3:0<s.p
   ·refine yc (by rw [decide_eq_true_eq]; omega) (Wp.obind (z10 _ _) (Wp.obind (z7 _ _ _) (Wp.obind (y5 K.row (by rw [Nat.zero_add]; exact K.cp)) (Wp.obind (z5 _ _) (yd (by omega) (by omega) (Wp.obind (z10 _ _) (Wp.obind (z7 _ _ _) (Wp.st1 K.row (show 0 + 96 < D.length by omega) rfl fun h2 k2 t2 n2 => fin h2 _ k2 t2 n2 (by rw [List.length_set]; exact hlen) (fun i hi => by rw [List.getElem?_set_ne (by omega)]) ?_ (by rw [List.getElem?_set_ne (by omega)]; exact K.co)))))))))
    rw[Nat.zero_add,List.getElem?_set_self (by omega)];unfold z92;rw[if_pos h3]
   ·refine y8 (by rw [decide_eq_false_iff_not]; omega) (fin h D K.row (Tch.refl _ _) rfl hlen (fun _ _ => rfl) ?_ K.co)
    unfold z92;rw[if_neg h3];exact K.cp
  ·exact yc (zc7 h2) (Wp.ret ⟨rfl,Tch.refl _ _,fun _=>rfl,fun h=>absurd h h2⟩)
 ·have e1 : z1fa s.p z e = 2 := by
   unfold z1fa;rw[if_neg h0,if_neg h1]
  rw[e1]
  have hj:Wp (j19 true h) fun r h'=>r=.ret (.int .i64 2)∧Tch [rb] h h'∧((2:Int)≠0→h'=h)∧((2:Int)=0→∃D',RefD lo' h' rb D' vs ⟨s.fs,z92 s.p,s.ops+1⟩∧h'.next=h.next):=by
   rw[ej];exact yc rfl (Wp.ret ⟨rfl,Tch.refl _ _,fun _=>rfl,fun h=>absurd h (by decide)⟩)
  by_cases h2:z<0
  ·exact yc (by rw[decide_eq_true_eq];exact h2) hj
  ·refine y8 (by rw [decide_eq_false_iff_not]; exact h2) (Wp.lett ?_)
   rw[decide_eq_true (show z≥32 by omega)];exact hj
def z23d(s:DS)(z:Int):Cont:=if 0≤z∧z<32 then (s.fs z.toNat).seen else ⟨false,[]⟩
theorem see_r(hn:1000000<n)(K:RefD lo h rb D vs s)(ho:SOk s B)(hB:B<1000000)(z:Int):∃h',world n (d+3) 49 [.ptr rb 0,.int .i64 z] h=some (.ret (.agg (ze7 (z23d s z))),h')∧Tch [] h h':=by
 suffices hK:Wp (world n (d+3) 49 [.ptr rb 0,.int .i64 z] h) fun r h'=>r=.ret (.agg (ze7 (z23d s z)))∧Tch [] h h' by
  obtain⟨_,h',e,rfl,k⟩:=hK;exact⟨h',e,k⟩
 rw[z2a6];unfold zbe;refine y12 (Mem.nil [] h) fun h2 M2=>Wp.lett (y9 fun j10 ej=>?_);have t2:=M2.tch;rw[z2d] at ej;have hlen:=K.len
 by_cases h1:0≤z∧z<32
 ·have e1 : z23d s z = (s.fs z.toNat).seen := if_pos h1
  rw[e1];refine y8 (by rw[decide_eq_false_iff_not];omega) (Wp.lett ?_);rw[decide_eq_false (show ¬z≥32 by omega),ej];obtain⟨f,rfl⟩:∃f:Nat,z=(f:Int):=⟨z.toNat,by omega⟩;have hf:f<32:=by omega
  rw[Int.toNat_natCast];have C:=K.cells f hf;have kr2:=K.row.tch t2 K.hrb (fun h=>nomatch h)
  have hrow:z28 h2 3 (.ptr rb (3*f))=some (ze7 (s.fs f).sure++[vs f]):=by
   rw[kr2.ld (by omega)]
   congr 1
   refine List.ext_getElem? fun i=>?_
   rcases i with _|_|_|i
   ·rw [List.getElem?_take_of_lt (by decide), List.getElem?_drop]
    exact C.c0
   ·rw [List.getElem?_take_of_lt (by decide), List.getElem?_drop]
    exact C.c1
   ·rw [List.getElem?_take_of_lt (by decide), List.getElem?_drop]
    exact C.c2
   ·rw[List.getElem?_eq_none (by rw[List.length_take];omega),List.getElem?_eq_none (by show 3≤_;omega)]
  have hseen:=(ho.ok f hf).1;refine y8 rfl (Wp.obind (z10 _ _) (Wp.obind (z7 _ _ _) (Wp.obind (idxR hf) (Wp.obind hrow ?_))));have es:=seen_r (n:=n) (d:=d) (h:=h2) hn (ho.seen hf) hB ((K.rl f hf).tch t2 (fun _ _ h=>nomatch h));rw[←hseen] at es;exact Wp.callN es (Wp.obind (z2b _) (y1a M2 rfl rfl rfl fun h3 M3=>y24 M3 rfl (Wp.ret ⟨rfl,M3.tch⟩)))
 ·have e1 : z23d s z = ⟨false, []⟩ := if_neg h1
  rw[e1]
  have hj:Wp (j10 true h2) fun r h'=>r=.ret (.agg (ze7 ⟨false,[]⟩))∧Tch [] h h':=by
   rw[ej];exact yc rfl (y1a M2 rfl rfl rfl fun h3 M3=>y24 M3 rfl (Wp.ret ⟨rfl,M3.tch⟩))
  by_cases h2:z<0
  ·exact yc (by rw[decide_eq_true_eq];exact h2) hj
  ·refine y8 (by rw [decide_eq_false_iff_not]; exact h2) (Wp.lett ?_)
   rw[decide_eq_true (show z≥32 by omega)];exact hj
theorem read_r(hn:1000000<n)(K:RefD lo h rb D vs s)(ho:SOk s B)(hB:B<1000000)(z:Int):∃h',world n (d+4) 41 [.ptr rb 0,.int .i64 z] h=some (.ret (.tup [zc (zb4 s z),.int .i64 (z16e s z)]),h')∧Tch [] h h':=by
 suffices hK:Wp (world n (d+4) 41 [.ptr rb 0,.int .i64 z] h) fun r h'=>r=.ret (.tup [zc (zb4 s z),.int .i64 (z16e s z)])∧Tch [] h h' by
  obtain⟨_,h',e,rfl,k⟩:=hK;exact⟨h',e,k⟩
 rw[z26b];unfold za5;refine Wp.obind (z10 _ _) (Wp.obind (z7 _ _ _) (Wp.obind (y5 K.row (by rw[Nat.zero_add];exact K.cp)) (Wp.obind (z5 _ _) (Wp.lett ?_))));unfold zb4 z16e zcf
 by_cases h0:s.p=0
 ·rw [if_pos h0, if_neg (by decide), if_neg (by decide)]
  exact yc (zf7 h0) (Wp.ret ⟨rfl,Tch.refl _ _⟩)
 rw[if_neg h0];refine y8 (zc8 h0) (Wp.lett (y9 fun j19 ej=>?_))
 by_cases h1:0≤z∧z<32
 ·rw [if_pos h1, if_pos rfl, if_pos rfl]
  refine y8 (by rw[decide_eq_false_iff_not];omega) (Wp.lett ?_);rw[decide_eq_false (show ¬z≥32 by omega),ej];obtain⟨h2,e2,t2⟩:=see_r (n:=n) (d:=d) hn K ho hB z;have e1:z23d s z=(s.fs z.toNat).seen:=if_pos h1;rw[e1] at e2;refine y8 rfl (Wp.callN e2 (Wp.obind (z2b _) (y12 (Mem.nil [] h2) fun h3 M3=>?_)));rw[z2d];refine y1a M3 rfl rfl rfl fun h4 M4=>y1b M4 (show (ze7 (s.fs z.toNat).seen)[0]? =some (.bool (s.fs z.toNat).seen.th) from rfl) (Wp.obind (z13 _) (Wp.lett ?_));cases hth:(s.fs z.toNat).seen.th with
  |false=>exact yc rfl (Wp.ret ⟨rfl,t2.trans M4.tch⟩)
  |true=>
   exact y8 rfl (y1b M4 (show (ze7 (s.fs z.toNat).seen)[1]? =some (zc (s.fs z.toNat).seen.u) from rfl) (Wp.obind (z12 _) (Wp.ret ⟨rfl,t2.trans M4.tch⟩)))
 ·rw [if_neg h1, if_neg (by decide), if_neg (by decide)]
  have hj:Wp (j19 true h) fun r h'=>r=.ret (.tup [zc [],.int .i64 2])∧Tch [] h h':=by
   rw[ej];exact yc rfl (Wp.ret ⟨rfl,Tch.refl _ _⟩)
  by_cases h2:z<0
  ·exact yc (by rw[decide_eq_true_eq];exact h2) hj
  ·refine y8 (by rw [decide_eq_false_iff_not]; exact h2) (Wp.lett ?_)
   rw[decide_eq_true (show z≥32 by omega)];exact hj
end
end Go.Proofs.Ytbhblbffdmiepaa
namespace Go.Proofs.Ytbhblbffdmiepaa.Abs
noncomputable section
open Go.RowKit
section
variable (P:Program)(w0:Base)(m0:Map)(N:Nat)(rd:Option Nat)(n:Nat)
def WR(c:Code)(Q:Exit→Act→World→Prop)(l:Fr)(ds:DefT)(h:AHeap):Prop:=Go w0 m0 N (c.wpIn (FW rd) n P Q) l ds h
def WLR(ops:Array Oper)(i:Nat)(Q:Exit→Act→World→Prop)(l:Fr)(ds:DefT)(h:AHeap):Prop:=Go w0 m0 N (wpListIn (FW rd) n P ops Q (ops.toList.drop i)) l ds h
def InLR(c:Code)(Q:Exit→Act→World→Prop)(act:Act)(w:World):Prop:=∀(b:Frame) (k:List Item) (cs:List Frame),b.roundOf=(FW rd).round→
 ∃e a' w',Q e a' w'∧ArrivesIn (Machine.fenced P (FW rd)) P (lone (b.atR act (.code c:: .inLoop c::k)) cs w) b k cs e a' w'
end
section
variable {P:Program}{w0:Base}{m0:Map}{N:Nat}{rd:Option Nat}{n:Nat}{l l':Fr}{ds:DefT}{h h':AHeap}{Q:Exit→Act→World→Prop}{K:Act→World→Prop}{both:z31}
theorem WR.weaken{c:Code}(hs:l.sub l')(hk:WR P w0 m0 N rd n c Q l' ds h):WR P w0 m0 N rd n c Q l ds h:=Go.weaken hs hk
theorem WLR.weaken{ops:Array Oper}{i:Nat}(hs:l.sub l')(hk:WLR P w0 m0 N rd n ops i Q l' ds h):WLR P w0 m0 N rd n ops i Q l ds h:=Go.weaken hs hk
theorem WR.skip{c:Code}(hc:Code.kind c=0)(hk:Go w0 m0 N (Q .normal) l ds h):WR P w0 m0 N rd n c Q l ds h:=by
 cases c<;>first|(exact fun m act w he ha F=>wpIn_skip (hk m act w he ha F))|(simp[Code.kind] at hc;done)|(rename_i d;cases d<;>simp[Code.kind] at hc)
theorem WR.seq{c:Code}(hc:Code.kind c=1)(hk:WR P w0 m0 N rd n (y7 c) (Exit.then ((y6 c).wpIn (FW rd) n P Q) Q) l ds h):WR P w0 m0 N rd n c Q l ds h:=by
 cases c<;>first|(exact fun m act w he ha F=>wpIn_seq (hk m act w he ha F))|(simp[Code.kind] at hc;done)|(rename_i d;cases d<;>simp[Code.kind] at hc)
theorem WR.cond_true{c:Code}(hc:Code.kind c=2)(hv:l.eval (y29 c)=some (.bool true))(hk:WR P w0 m0 N rd n (y7 c) Q l ds h):WR P w0 m0 N rd n c Q l ds h:=by
 cases c<;>first|(exact fun m act w he ha F=>wpIn_cond_true (zc9 (z1b4 (a:=⟨l.tree,ds⟩) (fun t _=>ha.tmps t) _ (by rw[y11];exact hv))) (hk m act w he ha F))|(simp[Code.kind] at hc;done)|(rename_i d;cases d<;>simp[Code.kind] at hc)
theorem WR.cond_false{c:Code}(hc:Code.kind c=2)(hv:l.eval (y29 c)=some (.bool false))(hk:WR P w0 m0 N rd n (y6 c) Q l ds h):WR P w0 m0 N rd n c Q l ds h:=by
 cases c<;>first|(exact fun m act w he ha F=>wpIn_cond_false (zc9 (z1b4 (a:=⟨l.tree,ds⟩) (fun t _=>ha.tmps t) _ (by rw[y11];exact hv))) (hk m act w he ha F))|(simp[Code.kind] at hc;done)|(rename_i d;cases d<;>simp[Code.kind] at hc)
theorem WR.block{c:Code}(hc:Code.kind c=3)(hk:WR P w0 m0 N rd n (y7 c) (Exit.inBlock (Code.num c) Q) l ds h):WR P w0 m0 N rd n c Q l ds h:=by
 cases c<;>first|(exact fun m act w he ha F=>wpIn_block (hk m act w he ha F))|(simp[Code.kind] at hc;done)|(rename_i d;cases d<;>simp[Code.kind] at hc)
theorem WR.exit{c:Code}(hc:Code.kind c=5)(hk:Go w0 m0 N (Q (.exit (Code.num c))) l ds h):WR P w0 m0 N rd n c Q l ds h:=by
 cases c<;>first|(exact fun m act w he ha F=>wpIn_exit (hk m act w he ha F))|(simp[Code.kind] at hc;done)|(rename_i d;cases d<;>simp[Code.kind] at hc)
theorem WR.ret{c:Code}(hc:Code.kind c=6)(hk:Go w0 m0 N (Q .ret) l ds h):WR P w0 m0 N rd n c Q l ds h:=by
 cases c<;>first|(exact fun m act w he ha F=>wpIn_ret (hk m act w he ha F))|(simp[Code.kind] at hc;done)|(rename_i d;cases d<;>simp[Code.kind] at hc)
theorem InLR.round{c:Code}{act:Act}{w:World}(hk:c.wpIn (FW rd) n P (Exit.then (InLR P rd c Q) Q) act w):InLR P rd c Q act w:=by
 intro b k cs hro;have hb:(FW rd).fn b.fn:=trivial;have hr:(FW rd).room (cs.length+1+n):=room_wide _;obtain⟨e1,a1,w1,hq,harr⟩:=hk b (.inLoop c::k) cs hro hb hr
 cases e1 with
 |normal=>
  obtain⟨e3,a3,w3,hq3,harr3⟩:=hq b k cs hro;exact⟨e3,a3,w3,hq3,.of_steps (StepsIn.trans harr (.one (fenced_calm hb hr rfl) stepR_inLoop)) harr3⟩
 |exit id=>exact⟨_,a1,w1,hq,.pass (x:=.inLoop c) rfl (fun _ _=>.inl (by simp)) harr⟩
 |goto l=>exact⟨_,a1,w1,hq,.pass (x:=.inLoop c) rfl (fun _ _=>.inl (by simp)) harr⟩
 |ret=>exact⟨_,a1,w1,hq,.pass (x:=.inLoop c) rfl (fun _ _=>.inl (by simp)) harr⟩
 |panic ch=>exact⟨_,a1,w1,hq,.pass (x:=.inLoop c) rfl (fun _ _=>.inl (by simp)) harr⟩
 |outgrown=>exact⟨_,a1,w1,hq,.pass (x:=.inLoop c) rfl (fun _ _=>.inl (by simp)) harr⟩
theorem WR.loop{c:Code}(hc:Code.kind c=4)(hk:Go w0 m0 N (InLR P rd (y7 c) Q) l ds h):WR P w0 m0 N rd n c Q l ds h:=by
 obtain⟨x,rfl⟩:=z3d6 hc;intro m act w he ha F b k cs hro hb hr;obtain⟨e,a',w',q,r⟩:=hk m act w he ha F b k cs hro;exact⟨e,a',w',q,.of_steps (.one (fenced_calm hb hr rfl) stepR_loop) r⟩
theorem Go.roundR{c:Code}(hk:WR P w0 m0 N rd n c (Exit.then (InLR P rd c Q) Q) l ds h):Go w0 m0 N (InLR P rd c Q) l ds h:=fun m act w he ha F=>InLR.round (n:=n) (hk m act w he ha F)
def z374:z31:=fun _ _ _ _=>none
theorem z1ae:BothOK P w0 z374:=⟨(fun _ _ _ _ _ h=>nomatch h),(fun _ _ _ _ _ h=>nomatch h)⟩
def isDefer(o:Oper):Bool:=match o.op with
 | .defer _=>true
 |_=>false
def z46e(N:Nat)(ops:Array Oper)(i:Nat):Option (Option Nat):=match ops[i]? with
 |some o=>match z150 N o&& !isDefer o with
  |true=>some o.dst
  |false=>none
 |none=>none
theorem z2f4{ops:Array Oper}{i:Nat}{d:Option Nat}(hd:z46e N ops i=some d):∃o,ops[i]? =some o∧z150 N o=true∧(∀c,o.op≠ .defer c)∧o.dst=d:=by
 unfold z46e at hd
 split at hd
 ·rename_i o ho
  split at hd
  ·rename_i hk
   rw[Bool.and_eq_true] at hk;simp only[Option.some.injEq] at hd;refine⟨o,ho,hk.1,fun c e=>?_,hd⟩;have:=hk.2;unfold isDefer at this;rw[e] at this
   cases this
  ·cases hd
 ·cases hd
theorem stepR_ok1(hc:BothOK P w0 both){ops:Array Oper}{o:Oper}{ol:List Oper}{a:AAct}{st:AStep}{m:Map}{act:Act}{H:AHeap}{w:World}(ha:RelAct m N a act)(F:Fits w0 m H w)(ho:z150 N o=true)(hnd:∀c,o.op≠ .defer c)(hst:z3b0 P both ops o a H=some st)(hgo:∀(a':AAct) (h':AHeap),st=.go a' h'→∀(m':Map) (act':Act) (w':World),Ext m m'→RelAct m' N a' act'→Fits w0 m' h' w'→wpListIn (FW rd) n P ops Q ol act' w')(hpn:∀(v:AV) (h':AHeap),st=.panic v h'→∀(m':Map) (w':World) (v':Value),Ext m m'→Fits w0 m' h' w'→Rel m' v v'→Q (.panic [{v:=v',recovered:=false}]) act w'):
  wpListIn (FW rd) n P ops Q (o::ol) act w:=by
 have hd':∀t,o.dst=some t→t<N:=by
  intro t ht;simp only[z150,ht] at ho;exact Nat.le_of_ble_eq_true ho
 rw[wpListIn];unfold z3b0 at hst
 split at hst
 ·rename_i hw
  rw[z191 (fun t _=>ha.tmps t) hw];simp only[if_true];cases hop:opA P a.eval o H with
  |none=>rw[hop] at hst;cases hst
  |some p=>
   obtain⟨nx,H1⟩:=p;rw[hop] at hst;refine⟨fun _ _=>trivial,?_⟩;rw[Oper.semAt_eq _ _ _ hnd];refine uponR_ok hc (z45a F o (fun x _ v hv=>z1b4 (fun t _=>ha.tmps t) v hv) hop) hst (fun a' h' e' m' w' v v' he F' hv ea=>?_) (fun v h' e' m' w' v' he F' hv=>?_)
   ·subst e' ea
    exact hgo _ _ rfl m' _ w' he ((ha.mono he.le).put1 hd' hv) F'
   ·subst e'
    exact hpn _ _ rfl m' w' v' he F' hv
 ·rename_i hw
  rw[z191 (fun t _=>ha.tmps t) hw];simp only[Bool.false_eq_true,if_false];simp only[z3c,Option.some.injEq] at hst;subst hst;refine⟨fun _ _=>trivial,hgo _ _ rfl m _ w (Ext.refl m) (ha.put1 hd' (.tup .nil)) F⟩
 ·cases hst
theorem WR.region{c:Code}(hc:Code.kind c=7)(hk:WLR P w0 m0 N rd n (Code.ops c) 0 Q l ds h):WR P w0 m0 N rd n c Q l ds h:=by
 cases c with
 |region id ops d=>cases d with
  |false=>exact fun m act w he ha F=>wpIn_region_list (hk m act w he ha F)
  |true=>simp[Code.kind] at hc
 |_=>simp[Code.kind] at hc
theorem WLR.nil{ops:Array Oper}{i:Nat}(hi:Nat.beq ops.size i=true)(hk:Go w0 m0 N (Q .normal) l ds h):WLR P w0 m0 N rd n ops i Q l ds h:=by
 intro m act w he ha F
 have:ops.toList.drop i=[]:=by
  have:=Nat.eq_of_beq_eq_true hi
  simp[←this]
 rw[this];exact hk m act w he ha F
theorem WLR.step{ops:Array Oper}{i:Nat}{o:Oper}(ho:ops[i]? =some o)(hd:z150 N o=true)(hnd:∀c,o.op≠ .defer c)(hc:BothOK P w0 both){d:Option Nat}{v:AV}{ds':DefT}(hst:z3b0 P both ops o ⟨l.tree,ds⟩ h=some (.go ⟨(l.put d v).tree,ds'⟩ h'))(hk:WLR P w0 m0 N rd n ops (i+1) Q (l.put d v) ds' h'):WLR P w0 m0 N rd n ops i Q l ds h:=by
 intro m act w he ha F
 have hl:i<ops.toList.length:=by
  rcases Array.getElem?_eq_some_iff.1 ho with⟨h1,_⟩
  simpa using h1
 have hdrop:ops.toList.drop i=o::ops.toList.drop (i+1):=by
  rw[List.drop_eq_getElem_cons hl]
  congr 1
  rcases Array.getElem?_eq_some_iff.1 ho with⟨h1,h2⟩
  simpa using h2
 rw[hdrop];refine stepR_ok1 hc ha F hd hnd hst (fun a' h2 e m' act' w' he' ha' F'=>?_) (fun v h2 e=>by cases e);simp only[AStep.go.injEq] at e;obtain⟨rfl,rfl⟩:=e;exact hk m' act' w' (he.trans he') ha' F'
theorem WLR.val{ops:Array Oper}{i:Nat}{d:Option Nat}{v:AV}(hd:z46e N ops i=some d)(hw:z26 ops l.get i=some true)(hop:zf8 P l.eval ops i h=some (.val v,h'))(hk:WLR P w0 m0 N rd n ops (i+1) Q (l.put d v) ds h'):WLR P w0 m0 N rd n ops i Q l ds h:=by
 obtain⟨o,ho,hok,hnd,rfl⟩:=z2f4 hd;refine WLR.step (v:=v) (d:=o.dst) (ds':=ds) ho hok hnd z1ae ?_ hk;have hw:z45 ops l.get o.guard=some true:=by simpa [z26,ho] using hw
 have hop:opA P l.eval o h=some (.val v,h'):=by simpa [zf8,ho] using hop
 simp only[z3b0,y10,hw,y11,hop,z1a7,z3c,y15]
theorem WLR.eff{ops:Array Oper}{i:Nat}(hd:z46e N ops i=some none)(hw:z26 ops l.get i=some true)(hop:zf8 P l.eval ops i h=some (.skip,h'))(hk:WLR P w0 m0 N rd n ops (i+1) Q l ds h'):WLR P w0 m0 N rd n ops i Q l ds h:=by
 obtain⟨o,ho,hok,hnd,hdn⟩:=z2f4 hd;refine WLR.step (v:=.tup []) (d:=none) (ds':=ds) ho hok hnd z1ae ?_ hk;have hw:z45 ops l.get o.guard=some true:=by simpa [z26,ho] using hw
 have hop:opA P l.eval o h=some (.skip,h'):=by simpa [zf8,ho] using hop
 simp only[z3b0,y10,hw,y11,hop,z1a7,z3c,y15,hdn]
theorem WLR.not{ops:Array Oper}{i:Nat}{d:Option Nat}(hd:z46e N ops i=some d)(hw:z26 ops l.get i=some false)(hk:WLR P w0 m0 N rd n ops (i+1) Q (l.put d (.tup [])) ds h):WLR P w0 m0 N rd n ops i Q l ds h:=by
 obtain⟨o,ho,hok,hnd,rfl⟩:=z2f4 hd;refine WLR.step (v:=.tup []) (d:=o.dst) (ds':=ds) ho hok hnd z1ae ?_ hk;have hw:z45 ops l.get o.guard=some false:=by simpa [z26,ho] using hw
 simp only[z3b0,y10,hw,z3c,y15]
theorem y46(hc:BothOK P w0 both){ops:Array Oper}{i:Nat}{d:Option Nat}{f:FuncId}{args:List AV}{v:AV}{h1:AHeap}(hd:z46e N ops i=some d)(hw:z26 ops l.get i=some true)(hop:zf8 P l.eval ops i h=some (.call f args,h1))(hcall:both false f args h1=some (.ret v,h'))(hk:WLR P w0 m0 N rd n ops (i+1) Q (l.put d v) ds h'):WLR P w0 m0 N rd n ops i Q l ds h:=by
 obtain⟨o,ho,hok,hnd,rfl⟩:=z2f4 hd;refine WLR.step (v:=v) (d:=o.dst) (ds':=ds) ho hok hnd hc ?_ hk;have hw:z45 ops l.get o.guard=some true:=by simpa [z26,ho] using hw
 have hop:opA P l.eval o h=some (.call f args,h1):=by simpa [zf8,ho] using hop
 simp only[z3b0,y10,hw,y11,hop,z1a7,hcall,z165,z3c,y15]
def noRnd:Nat→List AV→AHeap→Option (ARes×AHeap):=fun _ _ _=>none
def mkBoth(call:z11)(rnd:Nat→List AV→AHeap→Option (ARes×AHeap)):z31:=fun k f args h=>match k with
 |false=>call f args h
 |true=>rnd f args h
theorem z3f3{call:z11}(hc:z126 P w0 call):BothOK P w0 (mkBoth call noRnd):=⟨hc,(fun _ _ _ _ _ h=>nomatch h)⟩
theorem WLR.call{call:z11}(hc:z126 P w0 call){ops:Array Oper}{i:Nat}{d:Option Nat}{f:FuncId}{args:List AV}{v:AV}{h1:AHeap}(hd:z46e N ops i=some d)(hw:z26 ops l.get i=some true)(hop:zf8 P l.eval ops i h=some (.call f args,h1))(hcall:call f args h1=some (.ret v,h'))(hk:WLR P w0 m0 N rd n ops (i+1) Q (l.put d v) ds h'):WLR P w0 m0 N rd n ops i Q l ds h:=y46 (z3f3 hc) hd hw hop hcall hk
theorem WLR.round(hc:BothOK P w0 both){ops:Array Oper}{i:Nat}{d:Option Nat}{b:Nat}{args:List AV}{v:AV}{h1:AHeap}(hd:z46e N ops i=some d)(hw:z26 ops l.get i=some true)(hop:zf8 P l.eval ops i h=some (.round b args,h1))(hcall:both true b args h1=some (.ret v,h'))(hk:WLR P w0 m0 N rd n ops (i+1) Q (l.put d v) ds h'):WLR P w0 m0 N rd n ops i Q l ds h:=by
 obtain⟨o,ho,hok,hnd,rfl⟩:=z2f4 hd;refine WLR.step (v:=v) (d:=o.dst) (ds':=ds) ho hok hnd hc ?_ hk;have hw:z45 ops l.get o.guard=some true:=by simpa [z26,ho] using hw
 have hop:opA P l.eval o h=some (.round b args,h1):=by simpa [zf8,ho] using hop
 simp only[z3b0,y10,hw,y11,hop,z1a7,hcall,z165,z3c,y15]
theorem WR.range(hc:BothOK P w0 both){f:Operand}{ps:Array Tmp}{x y:Code}{e:AExit}{l':Fr}{ds':DefT}(hr:z1b8 P both none N (l.eval f) ps x y ⟨l.tree,ds⟩ h=some (e,⟨l'.tree,ds'⟩,h'))(hq:∀(m:Map) (act:Act) (w:World) (e':Exit),Ext m0 m→RelExit m e e'→RelAct m N ⟨l'.tree,ds'⟩ act→Fits w0 m h' w→Q e' act w):WR P w0 m0 N none n (.rangeFunc f ps x y) Q l ds h:=by
 intro m act w he ha F;have hev:(⟨l.tree,ds⟩:AAct).eval f=l.eval f:=by rw[y11]
 refine wpIn_mono (rangeR_ok (rb:=none) (f:=f) hc ⟨l.tree,ds⟩ h e _ h' (by
  show z1b8 P both none N ((⟨l.tree,ds⟩:AAct).eval f) ps x y ⟨l.tree,ds⟩ h=_;rw[hev];exact hr) none n m act w trivial ha F) ?_
 rintro e' act2 w2 ⟨m2,hx,ha2,F2,hex⟩
 exact hq m2 act2 w2 e' (he.trans hx) hex ha2 F2
end
def BothAll(P:Program)(both:z31):Prop:=∀w0,BothOK P w0 both
theorem BothAll.says{P:Program}{both:z31}(h:BothAll P both):SaysAll P (both false):=SaysAll.of fun w0=>(h w0).call
theorem BothAll.none{P:Program}:BothAll P z374:=fun _=>z1ae
theorem mkBoth_ok{P:Program}{call:z11}{rnd:Nat→List AV→AHeap→Option (ARes×AHeap)}(hc:SaysAll P call)(hr:∀w0,z307 P w0 rnd):BothAll P (mkBoth call rnd):=fun w0=>⟨hc.ok w0,hr w0⟩
def z447(cf:z31→z11)(rf:z31→Nat→List AV→AHeap→Option (ARes×AHeap)):Nat→z31
 |0=>z374
 |d+1=>mkBoth (cf (z447 cf rf d)) (rf (z447 cf rf d))
theorem z2c2{P:Program}{cf:z31→z11}{rf:z31→Nat→List AV→AHeap→Option (ARes×AHeap)}(hc:∀both,BothAll P both→SaysAll P (cf both))(hr:∀both,BothAll P both→∀w0,z307 P w0 (rf both)):∀d,BothAll P (z447 cf rf d)
 |0=>BothAll.none
 |d+1=>mkBoth_ok (hc _ (z2c2 hc hr d)) (hr _ (z2c2 hc hr d))
section
variable {P:Program}{w0:Base}{m0:Map}{N:Nat}{rd:Option Nat}{n:Nat}{l l':Fr}{ds:DefT}{h h':AHeap}{Q:Exit→Act→World→Prop}{K:Act→World→Prop}{both:z31}{r:ARes}
abbrev FinM(P:Program)(fn:Func)(w0:Base)(m0:Map)(r:ARes)(h':AHeap):Exit→Act→World→Prop:=bodyPostM Fence.wide 0 P fn (RetOK w0 m0 h' r)
theorem Go.leaveM{fn:Func}(hr:z24c P fn ⟨l.tree,ds⟩ ds h=some (r,h')):Go w0 m0 N (FinM P fn w0 m0 r h' .ret) l ds h:=fun m _ w he ha F=>
 LeavesInM.mono (fun _ _ hh=>hh.ext he) _ _ _ (z493 _ _ hr m _ ha.defers) (marksR_ok _ h hr m _ w ha.tmps ha.defers F)
theorem z2ba{f:FuncId}{fn:Func}{args:List AV}(hf:P.funcs[f]? =some fn){c:Code}(hb:fn.body=some c)(hlen:Nat.ble args.length fn.ntmps=true)(hw:∀w0 m0,WR P w0 m0 fn.ntmps none 0 c (FinM P fn w0 m0 r h') (z207 0 args) [] h):Says P f args h r h':=by
 intro w0 m w args' ha F;have hlen:=Nat.le_of_ble_eq_true hlen;have hl:=ha.length
 have hra : RelAct m fn.ntmps ⟨(z207 0 args).tree, []⟩ { tmps := (⟨args'⟩ : Array Value) ++ Array.replicate (fn.ntmps - (⟨args'⟩ : Array Value).size) undef, defers := [] } := {
  size := by simp; omega
  tmps := fun t v hv => by
   have hv : (z207 0 args).tree.get t = some v := hv;rw [Fr.get_tree] at hv
   obtain ⟨_, hv⟩ := z295 _ _ _ _ hv
   rw [Nat.sub_zero] at hv
   obtain ⟨y, hy, hr⟩ := ha.get t v hv
   have ht : t < args'.length := (List.getElem?_eq_some_iff.1 hy).1;refine ⟨y, ?_, hr⟩
   simp only
   rw [Array.getElem?_append_left (by simpa using ht)]
   simpa using hy
  defers := .nil }
 exact callsIn_wide.1 (callsIn_of_wp_marks (n:=0) hf hb trivial (hw w0 m m _ w (Ext.refl m) hra F))
theorem y42{m:Map}{act:Act}{t:T AV}(hs:∀i v,l.get i=some v→t.get i=some v)(hr:RelAct m N ⟨t,ds⟩ act):RelAct m N ⟨l.tree,ds⟩ act where
 size:=hr.size
 tmps i:=fun v hv=>hr.tmps i v (by
  have hv:l.tree.get i=some v:=hv;rw[Fr.get_tree] at hv;exact hs i v hv)
 defers:=hr.defers
theorem z34d{c:Code}{f:AAct→AHeap→z9c}(hf:∀(t:T AV) (ds:DefT) (h:AHeap) (e:AExit) (a':AAct) (h':AHeap),f ⟨t,ds⟩ h=some (e,a',h')→∃l:Fr,(∀i v,l.get i=some v→t.get i=some v)∧∀rd n m0,WR P w0 m0 N rd n c (fun e' act w=>z47f w0 m0 N e a' h' e' act w) l ds h)(rb:Option Nat):z229 P w0 N rb f c:=by
 intro a h e a' h' hr rd n m act w hrb ha F;obtain⟨l,hl,hk⟩:=hf a.tmps a.defers h e a' h' hr;exact hk rd n m m act w (Ext.refl m) (y42 hl ha) F
end
end
noncomputable section
open Go.RowKit
section
variable {P:Program}{w0:Base}{m0:Map}{N:Nat}{rd:Option Nat}{nR:Nat}{l l':Fr}{ds:DefT}{h h':AHeap}{Q:Exit→Act→World→Prop}{K:Act→World→Prop}{Y:z9f}{ops:Array Oper}{i:Nat}
theorem WR.seqK{c:Code}(hc:Code.kind c=1)(hk:∀K:Exit→Act→World→Prop,(∀{ds:DefT} {l:Fr} {h:AHeap},WR P w0 m0 N rd nR (y6 c) Q l ds h→Go w0 m0 N (K .normal) l ds h)→
  (∀{id:Nat} {ds:DefT} {l:Fr} {h:AHeap},Go w0 m0 N (Q (.exit id)) l ds h→Go w0 m0 N (K (.exit id)) l ds h)→(∀{ds:DefT} {l:Fr} {h:AHeap},Go w0 m0 N (Q .ret) l ds h→Go w0 m0 N (K .ret) l ds h)→
  (∀{ds:DefT} {l:Fr} {v:AV} {h:AHeap},Pan w0 m0 N Q l ds v h→Pan w0 m0 N K l ds v h)→WR P w0 m0 N rd nR (y7 c) K l ds h):WR P w0 m0 N rd nR c Q l ds h:=
 WR.seq hc (hk _ (fun h=>h) (fun h=>h) (fun h=>h) (fun h=>h))
theorem WR.blockK{c:Code}(hc:Code.kind c=3)(hk:∀K:Exit→Act→World→Prop,(∀{ds:DefT} {l:Fr} {h:AHeap},Go w0 m0 N (Q .normal) l ds h→Go w0 m0 N (K .normal) l ds h)→
  (∀{id:Nat} {ds:DefT} {l:Fr} {h:AHeap},Nat.beq id (Code.num c)=true→Go w0 m0 N (Q .normal) l ds h→Go w0 m0 N (K (.exit id)) l ds h)→
  (∀{id:Nat} {ds:DefT} {l:Fr} {h:AHeap},Nat.beq id (Code.num c)=false→Go w0 m0 N (Q (.exit id)) l ds h→Go w0 m0 N (K (.exit id)) l ds h)→(∀{ds:DefT} {l:Fr} {h:AHeap},Go w0 m0 N (Q .ret) l ds h→Go w0 m0 N (K .ret) l ds h)→
  (∀{ds:DefT} {l:Fr} {v:AV} {h:AHeap},Pan w0 m0 N Q l ds v h→Pan w0 m0 N K l ds v h)→WR P w0 m0 N rd nR (y7 c) K l ds h):WR P w0 m0 N rd nR c Q l ds h:=
 WR.block hc (hk _ (fun h=>h) (fun e h=>Go.bS e h) (fun e h=>Go.bO e h) (fun h=>h) (fun h=>h))
theorem WR.loopK{c:Code}(hc:Code.kind c=4)(hk:∀(I:Act→World→Prop) (K:Exit→Act→World→Prop),(∀{ds:DefT} {l:Fr} {h:AHeap},WR P w0 m0 N rd nR (y7 c) K l ds h→Go w0 m0 N I l ds h)→
  (∀{ds:DefT} {l:Fr} {h:AHeap},Go w0 m0 N I l ds h→Go w0 m0 N (K .normal) l ds h)→(∀{id:Nat} {ds:DefT} {l:Fr} {h:AHeap},Go w0 m0 N (Q (.exit id)) l ds h→Go w0 m0 N (K (.exit id)) l ds h)→
  (∀{ds:DefT} {l:Fr} {h:AHeap},Go w0 m0 N (Q .ret) l ds h→Go w0 m0 N (K .ret) l ds h)→(∀{ds:DefT} {l:Fr} {v:AV} {h:AHeap},Pan w0 m0 N Q l ds v h→Pan w0 m0 N K l ds v h)→
  Go w0 m0 N I l ds h):WR P w0 m0 N rd nR c Q l ds h:=
 WR.loop hc (hk _ _ (fun h=>Go.roundR h) (fun h=>h) (fun h=>h) (fun h=>h) (fun h=>h))
end
section
variable {P:Program}{w0:Base}{m0:Map}{N:Nat}{rd:Option Nat}{nR:Nat}{l l':Fr}{ds:DefT}{h:AHeap}{Q:Exit→Act→World→Prop}{K:Act→World→Prop}{Y:z9f}{ops:Array Oper}{i:Nat}
theorem WLR.a(d:Option Nat)(v:AV)(h':AHeap)(hk:WLR P w0 m0 N rd nR ops (i+1) Q (l.put d v) ds h')(h1:z46e N ops i=some d:=by kernel_rfl)(h2:z26 ops l.get i=some true:=by kernel_rfl)(h3:zf8 P l.eval ops i h=some (.val v,h'):=by kernel_rfl):WLR P w0 m0 N rd nR ops i Q l ds h:=WLR.val h1 h2 h3 hk
theorem WLR.b(d:Option Nat)(v:AV)(h':AHeap)(x:Y=some (.val v,h'))(hk:WLR P w0 m0 N rd nR ops (i+1) Q (l.put d v) ds h')(h1:z46e N ops i=some d:=by kernel_rfl)(h2:z26 ops l.get i=some true:=by kernel_rfl)(h3:zf8 P l.eval ops i h=Y:=by kernel_rfl):WLR P w0 m0 N rd nR ops i Q l ds h:=WLR.val h1 h2 (h3.trans x) hk
theorem WLR.e(h':AHeap)(x:Y=some (.skip,h'))(hk:WLR P w0 m0 N rd nR ops (i+1) Q l ds h')(h1:z46e N ops i=some none:=by kernel_rfl)(h2:z26 ops l.get i=some true:=by kernel_rfl)(h3:zf8 P l.eval ops i h=Y:=by kernel_rfl):WLR P w0 m0 N rd nR ops i Q l ds h:=WLR.eff h1 h2 (h3.trans x) hk
theorem WLR.o(d:Option Nat)(hk:WLR P w0 m0 N rd nR ops (i+1) Q (l.put d (.tup [])) ds h)(h1:z46e N ops i=some d:=by kernel_rfl)(h2:z26 ops l.get i=some false:=by kernel_rfl):WLR P w0 m0 N rd nR ops i Q l ds h:=WLR.not h1 h2 hk
theorem WLR.c{call:z11}(hc:z126 P w0 call)(d:Option Nat){f:FuncId}{args:List AV}{v:AV}{h1 h':AHeap}(hcall:call f args h1=some (.ret v,h'))(hk:WLR P w0 m0 N rd nR ops (i+1) Q (l.put d v) ds h')(h2:z46e N ops i=some d:=by kernel_rfl)(h3:z26 ops l.get i=some true:=by kernel_rfl)(h4:zf8 P l.eval ops i h=some (.call f args,h1):=by kernel_rfl):WLR P w0 m0 N rd nR ops i Q l ds h:=WLR.call hc h2 h3 h4 hcall hk
theorem WLR.n(hk:Go w0 m0 N (Q .normal) l ds h)(hi:Nat.beq ops.size i=true:=by kernel_rfl):WLR P w0 m0 N rd nR ops i Q l ds h:=WLR.nil hi hk
theorem WR.r{c:Code}(hk:WLR P w0 m0 N rd nR (Code.ops c) 0 Q l ds h)(hc:Code.kind c=7:=by kernel_rfl):WR P w0 m0 N rd nR c Q l ds h:=WR.region hc hk
theorem WR.s{c:Code}(hk:∀K:Exit→Act→World→Prop,(∀{ds:DefT} {l:Fr} {h:AHeap},WR P w0 m0 N rd nR (y6 c) Q l ds h→Go w0 m0 N (K .normal) l ds h)→
  (∀{id:Nat} {ds:DefT} {l:Fr} {h:AHeap},Go w0 m0 N (Q (.exit id)) l ds h→Go w0 m0 N (K (.exit id)) l ds h)→(∀{ds:DefT} {l:Fr} {h:AHeap},Go w0 m0 N (Q .ret) l ds h→Go w0 m0 N (K .ret) l ds h)→
  (∀{ds:DefT} {l:Fr} {v:AV} {h:AHeap},Pan w0 m0 N Q l ds v h→Pan w0 m0 N K l ds v h)→WR P w0 m0 N rd nR (y7 c) K l ds h)(hc:Code.kind c=1:=by kernel_rfl):WR P w0 m0 N rd nR c Q l ds h:=WR.seqK hc hk
theorem WR.t{c:Code}(hk:WR P w0 m0 N rd nR (y7 c) Q l ds h)(hc:Code.kind c=2:=by kernel_rfl)(hv:l.eval (y29 c)=some (.bool true):=by kernel_rfl):WR P w0 m0 N rd nR c Q l ds h:=WR.cond_true hc hv hk
theorem WR.f{c:Code}(hk:WR P w0 m0 N rd nR (y6 c) Q l ds h)(hc:Code.kind c=2:=by kernel_rfl)(hv:l.eval (y29 c)=some (.bool false):=by kernel_rfl):WR P w0 m0 N rd nR c Q l ds h:=WR.cond_false hc hv hk
end
end
noncomputable section
open Go.RowKit
def isRng:Code→Bool
 | .rangeFunc _ _ _ _=>true
 |_=>false
def Code.rgo:Code→Operand
 | .rangeFunc f _ _ _=>f
 |_=>.tmp 0
def y1c:Code→Array Tmp
 | .rangeFunc _ ps _ _=>ps
 |_=> #[]
def y21:Code→Code
 | .rangeFunc _ _ x _=>x
 |_=>.skip
def y1d:Code→Code
 | .rangeFunc _ _ _ y=>y
 |_=>.skip
abbrev dmark(D:Nat):FuncId×List AV×List AV:=(0,[],[.mrk D])
def rngX(P:Program)(both:z31)(N:Nat)(v:AV)(c:Code)(t:T AV)(ds:DefT)(h:AHeap):z9c:=z1b8 P both none N (some v) (y1c c) (y21 c) (y1d c) ⟨t,ds⟩ h
def rngK(x:z9c)(kn kr:AHeap→R)(ke:Nat→AHeap→R):R:=match x with
 |some (.normal,_,h)=>kn h
 |some (.ret,_,h)=>kr h
 |some (.exit id,_,h)=>ke id h
 |_=>none
theorem rng_frame{P:Program}{both:z31}{N:Nat}{f:Option AV}{ps:Array Tmp}{x y:Code}{t:T AV}{ds:DefT}{h h':AHeap}{e:AExit}{a':AAct}(hr:z1b8 P both none N f ps x y ⟨t,ds⟩ h=some (e,a',h')):a'=⟨t,dmark h.next::ds⟩:=by
 unfold z1b8 at hr
 split at hr
 ·split at hr
  ·simp only [z345] at hr
   unfold endR at hr
   split at hr
   ·split at hr
    ·split at hr
     ·cases hr
     ·split at hr<;> ·simp only[Option.some.injEq,Prod.mk.injEq] at hr;exact hr.2.1.symm
    ·cases hr
   ·cases hr
  ·cases hr
 ·cases hr
section
variable {P:Program}{w0:Base}{m0:Map}{N:Nat}{n:Nat}{l l':Fr}{ds:DefT}{h:AHeap}{Q:Exit→Act→World→Prop}{both:z31}{r:ARes×AHeap}{kn kr:AHeap→R}{ke:Nat→AHeap→R}{v:AV}
theorem WR.rng(hc:BothAll P both){c:Code}(z:rngK (rngX P both N v c l.tree ds h) kn kr ke=some r)(hn:∀h',kn h'=some r→Go w0 m0 N (Q .normal) l (dmark h.next::ds) h')(hr:∀h',kr h'=some r→Go w0 m0 N (Q .ret) l (dmark h.next::ds) h')(he:∀id h',ke id h'=some r→Go w0 m0 N (Q (.exit id)) l (dmark h.next::ds) h')(hk:isRng c=true:=by kernel_rfl)(hv:l.eval (Code.rgo c)=some v:=by kernel_rfl):WR P w0 m0 N none n c Q l ds h:=by
 cases c with
 |rangeFunc f ps x y=>
  have hv:l.eval f=some v:=hv;unfold rngK rngX at z;have hx:z1b8 P both none N (some v) (y1c (.rangeFunc f ps x y)) (y21 (.rangeFunc f ps x y)) (y1d (.rangeFunc f ps x y)) ⟨l.tree,ds⟩ h=z1b8 P both none N (l.eval f) ps x y ⟨l.tree,ds⟩ h:=by rw[hv];rfl
  rw[hx] at z;cases hr2:z1b8 P both none N (l.eval f) ps x y ⟨l.tree,ds⟩ h with
  |none=>rw[hr2] at z;cases z
  |some p=>
   obtain⟨e,a',h'⟩:=p;have ha:=rng_frame hr2;subst ha;rw[hr2] at z;refine WR.range (l':=l) (hc w0) hr2 fun m act w e' hx hex ha F=>?_;cases hex with
   |normal=>exact hn h' z m act w hx ha F
   |ret=>exact hr h' z m act w hx ha F
   |exit id=>exact he id h' z m act w hx ha F
   |goto l=>cases z
   |panic hv=>cases z
 |_=>cases hk
def z29c:DefT→AHeap→Option AHeap
 |[],h=>some h
 |(0,[],[.mrk D])::ds,h=>match h.get D with
  |some (.obj .dfr)=>z29c ds (h.put D (.obj .shut))
  |_=>none
 |_,_=>none
def z186(ds:DefT)(h:AHeap)(k:AHeap→R):R:=match z29c ds h with
 |some h'=>k h'
 |none=>none
theorem z460{fn:Func}{a:AAct}:∀(ds:DefT) (h h':AHeap),z29c ds h=some h'→z24c P fn a ds h=z397 h' (z167 P a h' fn.results.toList)
 |[],h,h',e=>by
  simp only[z29c,Option.some.injEq] at e;subst e;rfl
 |d::ds,h,h',e=>by
  unfold z29c at e
  split at e
  ·rename_i e'
   cases e'
  ·rename_i D ds2 _ e'
   simp only[List.cons.injEq] at e';obtain⟨rfl,rfl⟩:=e'
   split at e
   ·rename_i hb
    have ih:=z460 (fn:=fn) (a:=a) _ _ _ e;simp only[z24c,hb];exact ih
   ·cases e
  ·cases e
theorem y2c{fn:Func}{rR:ARes}{hR:AHeap}{k:AHeap→R}(z:z186 ds h k=some (rR,hR))(hk:∀h',k h'=some (rR,hR)→z397 h' (z127 P l.get h' fn.results.toList)=some (rR,hR)):Go w0 m0 N (FinM P fn w0 m0 rR hR .ret) l ds h:=by
 unfold z186 at z
 split at z
 ·rename_i h' hm
  refine Go.leaveM ?_;rw[z460 _ _ _ hm];have:=hk h' z;rw[←z360];show z397 h' (z127 P l.tree.get h' _)=_;rw[y10];exact this
 ·cases z
theorem y4a{fn:Func}{rR:ARes}{hR:AHeap}{k:AHeap→R}(z:z186 ds h k=some (rR,hR))(hk:∀h',k h'=some (rR,hR)→z397 h' (z127 P l.get h' fn.results.toList)=some (rR,hR)):Go w0 m0 N (FinM P fn w0 m0 rR hR .normal) l ds h:=y2c (P:=P) z hk
end
theorem z2d2{P:Program}{g:Nat→Option AV}{h:AHeap}{fn:Func}{rs:List ResultVar}{vs:List AV}{v:AV}(hrs:fn.results.toList=rs)(hv:z127 P g h rs=some vs)(hr:z397 h (some vs)=some (.ret v,h)):z397 h (z127 P g h fn.results.toList)=some (.ret v,h):=by
 rw[hrs,hv];exact hr
theorem ifB_id{id k:Nat}{a:R}{r:ARes×AHeap}(z:ifB (Nat.beq id k) a none=some r):id=k∧a=some r:=by
 cases hb:Nat.beq id k with
 |true=>rw[hb] at z;exact⟨Nat.eq_of_beq_eq_true hb,z⟩
 |false=>rw[hb] at z;cases z
def dynB(P:Program)(both:z31)(f:AV)(args:List AV)(h:AHeap):R:=match callV P h args (some f) with
 |some (.call g xs,h1)=>both false g xs h1
 |some (.round b xs,h1)=>both true b xs h1
 |some (.val v,h1)=>some (.ret v,h1)
 |_=>none
section
variable {P:Program}{w0:Base}{m0:Map}{N:Nat}{rd:Option Nat}{n:Nat}{l:Fr}{ds:DefT}{h h':AHeap}{Q:Exit→Act→World→Prop}{both:z31}
theorem WLR.dyn(hc:BothAll P both){ops:Array Oper}{i:Nat}{d:Option Nat}{f v:AV}{args:List AV}(hcall:dynB P both f args h=some (.ret v,h'))(hk:WLR P w0 m0 N rd n ops (i+1) Q (l.put d v) ds h')(hd:z46e N ops i=some d:=by kernel_rfl)(hw:z26 ops l.get i=some true:=by kernel_rfl)(hop:zf8 P l.eval ops i h=callV P h args (some f):=by kernel_rfl):WLR P w0 m0 N rd n ops i Q l ds h:=by
 unfold dynB at hcall
 split at hcall
 ·rename_i g xs h1 e
  exact y46 (hc w0) hd hw (hop.trans e) hcall hk
 ·rename_i b xs h1 e
  exact WLR.round (hc w0) hd hw (hop.trans e) hcall hk
 ·rename_i v1 h1 e
  cases hcall;exact WLR.val hd hw (hop.trans e) hk
 ·cases hcall
end
def decE:ARes→AExit
 | .ret (.int _ z)=>match z with
  |0=>.normal
  |1=>.ret
  |z=>.exit (z - 2).toNat
 |_=>.normal
def tupFr(ts:List Nat):ARes→Fr
 | .ret (.tup vs)=>ts.zip vs
 |_=>[]
section
variable {P:Program}{w0:Base}{m0:Map}{N:Nat}{l l':Fr}{ds:DefT}{h:AHeap}
theorem y3f(hs:l.sub l'):Go w0 m0 N (z47f w0 m0 N .normal ⟨l'.tree,ds⟩ h .normal) l ds h:=fun m _ _ he ha F=>⟨m,he,ha.weaken hs,F,.normal⟩
theorem Go.postE{id:Nat}:Go w0 m0 N (z47f w0 m0 N (.exit id) ⟨Fr.tree [],ds⟩ h (.exit id)) l ds h:=fun m _ _ he ha F=>⟨m,he,ha.weaken (ye _),F,.exit id⟩
end
section
variable {P:Program}{both:z31}{N:Nat}{c:Code}{t:T AV}{ds:DefT}{h h2:AHeap}{kn kr:AHeap→R}{ke:Nat→AHeap→R}{Q:ARes→AHeap→Prop}{g:FuncId}{first cap:List AV}{v:AV}{q:ALoop}
def z4b6(N:Nat)(c:Code)(t:T AV)(h:AHeap):AHeap:=(h.new (.obj .dfr)).new (.obj (.loop ⟨.ready,.none,t,N,y1c c,y21 c,y1d c,h.next⟩))
theorem z411(hb:z17b P g=true)(e:both false g (first++[.yld (h.next+1)]++cap) (z4b6 N c t h)=some (.ret v,h2))(hq:h2.get (h.next+1)=some (.obj (.loop q)))(hs:q.st≠ .busy):
  rngX P both N (.fn g first cap) c t ds h=(match q.pend with
   | .none=>some (.normal,⟨t,dmark h.next::ds⟩,h2.put (h.next+1) (.obj (.loop {q with st:=.exhausted})))
   | .ret=>some (.ret,⟨t,dmark h.next::ds⟩,h2.put (h.next+1) (.obj (.loop {q with st:=.exhausted})))
   | .exit id=>some (.exit id,⟨t,dmark h.next::ds⟩,h2.put (h.next+1) (.obj (.loop {q with st:=.exhausted})))):=by
 unfold rngX z1b8;simp only[hb,z345];unfold z4b6 at e;rw[e];unfold endR;simp only[hq];cases hst:q.st with
 |busy=>exact absurd hst hs
 |_=>rfl
theorem Wp.rngN(hb:z17b P g=true)(e:both false g (first++[.yld (h.next+1)]++cap) (z4b6 N c t h)=some (.ret v,h2))(hq:h2.get (h.next+1)=some (.obj (.loop q)))(hs:q.st≠ .busy)(hp:q.pend=.none)(hk:Wp (kn (h2.put (h.next+1) (.obj (.loop {q with st:=.exhausted})))) Q):Wp (rngK (rngX P both N (.fn g first cap) c t ds h) kn kr ke) Q:=by
 rw[z411 hb e hq hs];rw[hp] at hk ⊢;exact hk
theorem Wp.rngR(hb:z17b P g=true)(e:both false g (first++[.yld (h.next+1)]++cap) (z4b6 N c t h)=some (.ret v,h2))(hq:h2.get (h.next+1)=some (.obj (.loop q)))(hs:q.st≠ .busy)(hp:q.pend=.ret)(hk:Wp (kr (h2.put (h.next+1) (.obj (.loop {q with st:=.exhausted})))) Q):Wp (rngK (rngX P both N (.fn g first cap) c t ds h) kn kr ke) Q:=by
 rw[z411 hb e hq hs];rw[hp] at hk ⊢;exact hk
theorem Wp.rngE{id:Nat}(hb:z17b P g=true)(e:both false g (first++[.yld (h.next+1)]++cap) (z4b6 N c t h)=some (.ret v,h2))(hq:h2.get (h.next+1)=some (.obj (.loop q)))(hs:q.st≠ .busy)(hp:q.pend=.exit id)(hk:Wp (ke id (h2.put (h.next+1) (.obj (.loop {q with st:=.exhausted})))) Q):Wp (rngK (rngX P both N (.fn g first cap) c t ds h) kn kr ke) Q:=by
 rw[z411 hb e hq hs];rw[hp] at hk ⊢;exact hk
end
end
noncomputable section
open Go.RowKit
structure Site where
 N:Nat
 code:Code
 run:z31→AAct→AHeap→z9c
open Classical in
def Site.ok(P:Program)(s:Site):Prop:=∀both,BothAll P both→∀w0 rb,z229 P w0 s.N rb (s.run both) s.code
open Classical in
def decA(ts:List Nat)(ds:DefT):R→z9c
 |some (r,h)=>some (.normal,⟨Fr.tree (tupFr ts r),ds⟩,h)
 |none=>none
def decB(ds:DefT):R→z9c
 |some (r,h)=>some (decE r,⟨Fr.tree [],ds⟩,h)
 |none=>none
theorem decA_some{ts:List Nat}{ds:DefT}{x:R}{e:AExit}{a':AAct}{h':AHeap}(z:decA ts ds x=some (e,a',h')):∃r,x=some (r,h')∧e=.normal∧a'=⟨Fr.tree (tupFr ts r),ds⟩:=by
 cases x with
 |none=>cases z
 |some p=>
  obtain⟨r,h⟩:=p;simp only[decA,Option.some.injEq,Prod.mk.injEq] at z;obtain⟨rfl,rfl,rfl⟩:=z;exact⟨r,rfl,rfl,rfl⟩
theorem decB_some{ds:DefT}{x:R}{e:AExit}{a':AAct}{h':AHeap}(z:decB ds x=some (e,a',h')):∃r,x=some (r,h')∧e=decE r∧a'=⟨Fr.tree [],ds⟩:=by
 cases x with
 |none=>cases z
 |some p=>
  obtain⟨r,h⟩:=p;simp only[decB,Option.some.injEq,Prod.mk.injEq] at z;obtain⟨rfl,rfl,rfl⟩:=z;exact⟨r,rfl,rfl,rfl⟩
end
noncomputable section
open Go.RowKit
def orF(a b:z11):z11:=fun f args h=>match a f args h with
 |some r=>some r
 |none=>b f args h
theorem orF_ok{P:Program}{a b:z11}(ha:SaysAll P a)(hb:SaysAll P b):SaysAll P (orF a b):=by
 intro f args h r h' e;unfold orF at e
 split at e
 ·rename_i r' e2
  cases e
  exact ha _ _ _ _ _ e2
 ·exact hb _ _ _ _ _ e
theorem orF_l{a b:z11}{f:FuncId}{args:List AV}{h:AHeap}{x:ARes×AHeap}(e:a f args h=some x):orF a b f args h=some x:=by
 unfold orF;rw[e]
theorem orF_r{a b:z11}{f:FuncId}{args:List AV}{h:AHeap}(e:a f args h=none):orF a b f args h=b f args h:=by
 unfold orF;rw[e]
theorem z2fd{f:FuncId}:∀(l:List (FuncId×FnT)) (args:List AV) (h:AHeap),(l.all fun p=> !Nat.beq p.1 f)=true→z19f l f args h=none
 |[],_,_,_=>rfl
 |(g,s)::l,args,h,e=>by
  rw[List.all_cons,Bool.and_eq_true] at e;unfold z19f;have e1:Nat.beq g f=false:=by simpa using e.1
  rw[e1];exact z2fd l args h e.2
def y28:Code→Nat
 | .region id _ _=>id+1
 | .seq a b=>y28 a*3+y28 b
 | .cond _ a b=>y28 a*5+y28 b
 | .block _ a=>y28 a
 | .loop a=>y28 a
 |_=>0
structure LSite where
 N:Nat
 c:Code
 sa:List Nat
 fa:z31→FnT
 ts:List Nat
 fb:z31→FnT
open Classical in
def z24d(sites:List LSite)(q:ALoop):Option LSite:=sites.find? fun s=>Nat.beq s.N q.N&&(Nat.beq (y28 (y1d s.c)) (y28 q.body)&&decide (y21 s.c=q.assign∧y1d s.c=q.body))
theorem z338{sites:List LSite}{q:ALoop}{s:LSite}(h:z24d sites q=some s):s∈sites∧s.N=q.N∧y21 s.c=q.assign∧y1d s.c=q.body:=by
 have h1:=List.mem_of_find?_eq_some h;have h2:=List.find?_some h;simp only[Bool.and_eq_true,decide_eq_true_eq] at h2;exact⟨h1,Nat.eq_of_beq_eq_true h2.1,h2.2.2.1,h2.2.2.2⟩
open Classical in
theorem z3cf{s:LSite}{l:List LSite}{q:ALoop}(h1:s.N=q.N)(h2:y21 s.c=q.assign)(h3:y1d s.c=q.body):z24d (s::l) q=some s:=by
 unfold z24d;rw[List.find?_cons_of_pos];rw[h1,h2,h3,Nat.beq_refl,Nat.beq_refl];exact decide_eq_true ⟨rfl,rfl⟩
theorem z495{s:LSite}{l:List LSite}{q:ALoop}(h:(Nat.beq s.N q.N&&Nat.beq (y28 (y1d s.c)) (y28 q.body))=false):z24d (s::l) q=z24d l q:=by
 unfold z24d;rw[List.find?_cons_of_neg];rw[←Bool.and_assoc,h];exact Bool.false_ne_true
def z193(t:T AV):List Nat→Option (List AV)
 |[]=>some []
 |i::l=>match t.get i,z193 t l with
  |some v,some vs=>some (v::vs)
  |_,_=>none
theorem z276{t:T AV}:∀{l:List Nat} {vs:List AV},z193 t l=some vs→∀i v,Fr.get (l.zip vs) i=some v→t.get i=some v
 |[],vs,h,i,v,e=>by
  cases h
  cases e
 |j::l,vs,h,i,v,e=>by
  unfold z193 at h
  split at h
  ·rename_i w ws e1 e2
   cases h;rw[List.zip_cons_cons] at e;unfold Fr.get at e
   split at e
   ·rename_i hb
    have:=Nat.eq_of_beq_eq_true hb;subst this
    cases e
    exact e1
   ·exact z276 e2 i v e
  ·cases h
def LSite.A(s:LSite)(both:z31):AAct→AHeap→z9c:=fun a h=>match z193 a.tmps s.sa with
 |some vs=>decA s.ts a.defers (s.fa both vs h)
 |none=>none
def LSite.B(s:LSite)(both:z31):AAct→AHeap→z9c:=fun a h=>match z193 a.tmps s.ts with
 |some vs=>decB a.defers (s.fb both vs h)
 |none=>none
structure LSite.ok (P:Program) (s:LSite):Prop where
 A:∀{both:z31},BothAll P both→∀{vs:List AV} {h:AHeap} {r:ARes} {h':AHeap},s.fa both vs h=some (r,h')→∀(w0:Base) (m0:Map) (rd:Option Nat) (n:Nat) (ds:DefT),WR P w0 m0 s.N rd n (y21 s.c) (z47f w0 m0 s.N .normal ⟨Fr.tree (tupFr s.ts r),ds⟩ h') (s.sa.zip vs) ds h
 B:∀{both:z31},BothAll P both→∀{vs:List AV} {h:AHeap} {r:ARes} {h':AHeap},s.fb both vs h=some (r,h')→∀(w0:Base) (m0:Map) (rd:Option Nat) (n:Nat) (ds:DefT),WR P w0 m0 s.N rd n (y1d s.c) (z47f w0 m0 s.N (decE r) ⟨Fr.tree [],ds⟩ h') (s.ts.zip vs) ds h
theorem LSite.okA{P:Program}{s:LSite}(hs:s.ok P){both:z31}(hc:BothAll P both)(w0:Base)(rb:Option Nat):z229 P w0 s.N rb (s.A both) (y21 s.c):=by
 refine z34d (fun t ds h e a' h' hr=>?_) rb;unfold LSite.A at hr
 split at hr
 ·rename_i vs hv
  obtain⟨r,e1,rfl,rfl⟩:=decA_some hr;exact⟨s.sa.zip vs,z276 hv,fun rd n m0=>hs.A hc e1 w0 m0 rd n ds⟩
 ·cases hr
theorem LSite.okB{P:Program}{s:LSite}(hs:s.ok P){both:z31}(hc:BothAll P both)(w0:Base)(rb:Option Nat):z229 P w0 s.N rb (s.B both) (y1d s.c):=by
 refine z34d (fun t ds h e a' h' hr=>?_) rb;unfold LSite.B at hr
 split at hr
 ·rename_i vs hv
  obtain⟨r,e1,rfl,rfl⟩:=decB_some hr;exact⟨s.ts.zip vs,z276 hv,fun rd n m0=>hs.B hc e1 w0 m0 rd n ds⟩
 ·cases hr
def z44f(fa fb:ALoop→AAct→AHeap→z9c)(b:Nat)(args:List AV)(h:AHeap):Option (ARes×AHeap):=match h.get b with
 |some (.obj (.loop r))=>match z2da r.N r.ps.toList args r.tmps with
  |some t=>z377 (fb r) b (fa r ⟨t,[]⟩ h)
  |none=>none
 |_=>none
theorem roundQ_ok{P:Program}{w0:Base}{fa fb:ALoop→AAct→AHeap→z9c}(ha:∀(q:ALoop) (b:Nat),z229 P w0 q.N (some b) (fa q) q.assign)(hb:∀(q:ALoop) (b:Nat),z229 P w0 q.N (some b) (fb q) q.body):z307 P w0 (z44f fa fb):=by
 intro b args h r h' hr m w args' g r' hra F hmb hl hlen rd n;unfold z44f at hr
 split at hr
 ·rename_i rr hb0
  split at hr
  ·rename_i t ht
   obtain⟨_,_,_,r2,k1,k2,k3,k4,k5,k6,k7,k8,k9⟩:=F.obj _ _ _ _ _ hb0 hmb;rw[hl] at k1
   cases k1
   have hfr:=putPs_ok rr.ps.toList args args' rr.tmps t r'.tmps ht hra k4 k5
   have hz:(r'.params.zip ⟨args'⟩).foldl (fun tmps (x:Tmp×Value)=>tmps.setIfInBounds x.1 x.2) r'.tmps=(rr.ps.toList.zip args').foldl (fun tmps (p:Tmp×Value)=>tmps.setIfInBounds p.1 p.2) r'.tmps:=by
    rw[k6, ←Array.foldl_toList,Array.toList_zip]
   rw[←hz] at hfr;refine roundIn_of_wpIn trivial ?_;have hrel:RelAct m rr.N ⟨t,[]⟩ {tmps:=(r'.params.zip ⟨args'⟩).foldl (fun tmps (x:Tmp×Value)=>tmps.setIfInBounds x.1 x.2) r'.tmps,defers:=[]}:=⟨hfr.1,fun i v hv=>hfr.2 i v hv,.nil⟩;unfold z377 at hr
   split at hr
   ·rename_i a1 h1 hcode
    have h1w:=ha rr b _ _ _ _ _ hcode (some g) n m _ w hmb hrel F;rw[k7];refine wpIn_mono h1w ?_
    rintro e1 act1 w1 ⟨m1,hx1,ha1,F1,hex⟩
    cases hex
    split at hr
    ·rename_i r1 hb1
     split at hr
     ·rename_i hst
      have hmb1:=hx1.le _ _ hmb;obtain⟨r1',q1,q2,q3,q4,F2⟩:=F1.reLoop hb1 hmb1 .busy r1.pend;rw[←q3] at F2;refine⟨_,run_beginRound q1 (by rw[q2];exact hst),?_⟩;unfold z387 at hr
      split at hr
      ·rename_i e3 a3 h3 hbody
       split at hr
       ·rename_i j hj
        split at hr
        ·rename_i r3 hb3
         simp only[Option.some.injEq,Prod.mk.injEq] at hr;obtain⟨rfl,rfl⟩:=hr;have h2w:=hb rr b _ _ _ _ _ hbody (some g) n m1 _ _ hmb1 ha1 F2;rw[k8];refine wpIn_mono h2w ?_
         rintro e4 act4 w4 ⟨m4,hx4,ha4,F4,hex⟩
         have hmb4:=hx4.le _ _ hmb1;obtain⟨r3',p1,p2,p3,p4,F5⟩:=F4.reLoop hb3 hmb4 (if j.isNone then .ready else .done) j;have hx:=hx1.trans hx4;cases hex with
         |normal=>
          simp only[z33a,Option.some.injEq] at hj;subst hj;exact⟨_,_,run_endRound none p1,m4,hx,F5,_,rfl,.bool _⟩
         |ret=>
          simp only[z33a,Option.some.injEq] at hj;subst hj;exact⟨_,_,run_endRound (some .ret) p1,m4,hx,F5,_,rfl,.bool _⟩
         |exit id=>
          simp only[z33a,Option.some.injEq] at hj;subst hj;exact⟨_,_,run_endRound (some (.exit id)) p1,m4,hx,F5,_,rfl,.bool _⟩
         |goto l=>cases hj
         |panic hv=>cases hj
        ·cases hr
       ·cases hr
      ·cases hr
     ·cases hr
    ·cases hr
   ·cases hr
  ·cases hr
 ·cases hr
def z32a(sites:List LSite)(both:z31):Nat→List AV→AHeap→Option (ARes×AHeap):=z44f
 (fun q => match z24d sites q with
  |some s=>s.A both
  |none=>fun _ _=>none)
 (fun q => match z24d sites q with
  |some s=>s.B both
  |none=>fun _ _=>none)
theorem roundL_ok{P:Program}{sites:List LSite}(hs:∀s∈sites,s.ok P){both:z31}(hc:BothAll P both)(w0:Base):z307 P w0 (z32a sites both):=by
 refine roundQ_ok (fun q b=>?_) (fun q b=>?_)
 ·cases hf : z24d sites q with
  |none=>exact fun _ _ _ _ _ e=>nomatch e
  |some s=>
   obtain⟨h1,h2,h3,_⟩:=z338 hf;rw[←h2, ←h3];exact LSite.okA (hs s h1) hc w0 (some b)
 ·cases hf : z24d sites q with
  |none=>exact fun _ _ _ _ _ e=>nomatch e
  |some s=>
   obtain⟨h1,h2,_,h4⟩:=z338 hf;rw[←h2, ←h4];exact LSite.okB (hs s h1) hc w0 (some b)
def z323(sites:List LSite)(top:z31→List (FuncId×FnT))(base:z11):Nat→z31:=z447 (fun both=>orF (z19f (top both)) base) (z32a sites)
theorem worldL_ok{P:Program}{sites:List LSite}(hs:∀s∈sites,s.ok P){top:z31→List (FuncId×FnT)}(ht:∀both,BothAll P both→SaysAll P (z19f (top both))){base:z11}(hb:SaysAll P base)(d:Nat):BothAll P (z323 sites top base d):=
 z2c2 (fun _ hc=>orF_ok (ht _ hc) hb) (fun _ hc w0=>roundL_ok hs hc w0) d
section
variable {sites:List LSite}{top:z31→List (FuncId×FnT)}{base:z11}{d:Nat}{f:FuncId}{args:List AV}{h:AHeap}{x:ARes×AHeap}
theorem zd8(e:z19f (top (z323 sites top base d)) f args h=some x):z323 sites top base (d+1) false f args h=some x:=orF_l e
theorem z3ff(e:z19f (top (z323 sites top base d)) f args h=none):z323 sites top base (d+1) false f args h=base f args h:=orF_r e
end
def z1a0(s:LoopState)(j:AJump)(N:Nat)(c:Code)(t:T AV)(D:Nat):AObj:=.obj (.loop ⟨s,j,t,N,y1c c,y21 c,y1d c,D⟩)
theorem z451(N:Nat)(c:Code)(t:T AV)(h:AHeap):(z4b6 N c t h).get (h.next+1)=some (z1a0 .ready .none N c t h.next):=z42 _
theorem z3bb(N:Nat)(c:Code)(t:T AV)(h:AHeap):(z4b6 N c t h).get h.next=some (.obj .dfr):=by
 refine(z25 _ ?_).trans (z42 _);show h.next+1≠h.next;omega
theorem z3ba(N:Nat)(c:Code)(t:T AV)(h:AHeap):(z4b6 N c t h).next=h.next+2:=rfl
theorem z450(S:List Nat)(N:Nat)(c:Code)(t:T AV)(h:AHeap):Tch S h (z4b6 N c t h):=(Tch.new S h _).trans (Tch.new S _ _)
def z1d6(z:Int):AJump:=match decE (.ret (.int .i64 z)) with
 | .ret=>.ret
 | .exit id=>.exit id
 |_=>.none
def stZ(j:AJump):LoopState:=if j.isNone then .ready else .done
theorem z424(k:IntKind)(z:Int):z33a (decE (.ret (.int k z)))=some (z1d6 z):=by
 show z33a (match z with
  |0=>AExit.normal
  |1=>.ret
  |z=>.exit (z - 2).toNat)=some (match (match z with
  |0=>AExit.normal
  |1=>.ret
  |z=>.exit (z - 2).toNat) with
  | .ret=>AJump.ret
  | .exit id=>.exit id
  |_=>.none)
 split<;>rfl
section
variable {sites:List LSite}{both:z31}{s:LSite}{b N D:Nat}{c:Code}{t t0:T AV}{h h1 h2:AHeap}{args vs ws:List AV}{z:Int}{j:AJump}
theorem round_L(hb:h.get b=some (z1a0 .ready j N c t0 D))(hs:∀st jj,z24d sites ⟨st,jj,t0,N,y1c c,y21 c,y1d c,D⟩=some s)(hp:z2da N (y1c c).toList args t0=some t)(hg:z193 t s.sa=some vs)(ea:s.fa both vs h=some (.ret (.tup ws),h1))(k1:h1.get b=h.get b)(hg2:z193 (Fr.tree (s.ts.zip ws)) s.ts=some ws)(eb:s.fb both ws (h1.put b (z1a0 .busy j N c t0 D))=some (.ret (.int .i64 z),h2))(k2:h2.get b=some (z1a0 .busy j N c t0 D)):
  z32a sites both b args h=some (.ret (.bool (z1d6 z).isNone),h2.put b (z1a0 (stZ (z1d6 z)) (z1d6 z) N c t0 D)):=by
 unfold z32a z44f;unfold z1a0 at hb k2 eb ⊢;rw[hb];simp only[hp];rw[hs]
 have e1:s.A both ⟨t,[]⟩ h=some (.normal,⟨Fr.tree (s.ts.zip ws),[]⟩,h1):=by
  unfold LSite.A;simp only[hg,ea];rfl
 simp only[e1,z377];rw[k1,hb]
 have e2:s.B both ⟨Fr.tree (s.ts.zip ws),[]⟩ (h1.put b (.obj (.loop ⟨.busy,j,t0,N,y1c c,y21 c,y1d c,D⟩)))=some (decE (.ret (.int .i64 z)),⟨Fr.tree [],[]⟩,h2):=by
  unfold LSite.B;simp only[hg2,eb];rfl
 simp only[e2,z387,z424,k2];rfl
end
end
noncomputable section
open Go.RowKit
section
variable {P:Program}{both:z31}{sites:List LSite}{s:LSite}{b N D:Nat}{c:Code}{t0:T AV}{h:AHeap}{args vs:List AV}{j:AJump}{st:LoopState}{Q:ARes→AHeap→Prop}
theorem z46d(hb:h.get b=some (z1a0 st j N c t0 D))(hl:Nat.beq args.length (y1c c).size=true):dynB P both (.yld b) args h=both true b args h:=by
 have e:callV P h args (some (.yld b))=some (.round b args,h):=by
  show z445 h args b=_;unfold z445;rw[hb];unfold z1a0;simp only[hl,if_true]
 unfold dynB;rw[e]
theorem y31{k:AHeap→R}(hk:Wp (k h) Q):Wp (z186 [] h k) Q:=hk
theorem y44{k:AHeap→R}{ds:DefT}(hD:h.get D=some (.obj .dfr))(hk:Wp (z186 ds (h.put D (.obj .shut)) k) Q):Wp (z186 (dmark D::ds) h k) Q:=by
 unfold z186 at hk ⊢
 have e:z29c (dmark D::ds) h=z29c ds (h.put D (.obj .shut)):=by
  show (match h.get D with
   |some (.obj .dfr)=>z29c ds (h.put D (.obj .shut))
   |_=>none)=_
  rw[hD]
 rw[e];exact hk
theorem round_W{G:Int→AHeap→Prop}(hb:h.get b=some (z1a0 .ready j N c t0 D))(hs:∀st jj,z24d sites ⟨st,jj,t0,N,y1c c,y21 c,y1d c,D⟩=some s)(hg:((z2da N (y1c c).toList args t0).bind fun t=>z193 t s.sa)=some vs)(ea : Wp (s.fa both vs h) fun r h1 => ∃ ws, r = .ret (.tup ws) ∧ h1.get b = h.get b ∧ z193 (Fr.tree (s.ts.zip ws)) s.ts = some ws ∧
   Wp (s.fb both ws (h1.put b (z1a0 .busy j N c t0 D))) fun r2 h2=>∃z,r2=.ret (.int .i64 z)∧h2.get b=some (z1a0 .busy j N c t0 D)∧G z (h2.put b (z1a0 (stZ (z1d6 z)) (z1d6 z) N c t0 D))):
  ∃z h',z32a sites both b args h=some (.ret (.bool (z1d6 z).isNone),h')∧G z h':=by
 obtain⟨t,hp,hg⟩:=Option.bind_eq_some_iff.1 hg;obtain⟨_,h1,e1,ws,rfl,k1,g2,_,h2,e2,z,rfl,k2,hG⟩:=ea;exact⟨z,_,round_L hb hs hp hg e1 k1 g2 e2 k2,hG⟩
end
section
variable {P:Program}{both:z31}{N:Nat}{c:Code}{t:T AV}{ds:DefT}{h h2:AHeap}{kn kr:AHeap→R}{ke:Nat→AHeap→R}{Q:ARes→AHeap→Prop}{g:FuncId}{first cap:List AV}{v:AV}{st:LoopState}{j:AJump}
theorem Wp.rng(hb:z17b P g=true)(e:both false g (first++[.yld (h.next+1)]++cap) (z4b6 N c t h)=some (.ret v,h2))(hq:h2.get (h.next+1)=some (z1a0 st j N c t h.next))(hs:st≠ .busy)(hn:j=.none→Wp (kn (h2.put (h.next+1) (z1a0 .exhausted j N c t h.next))) Q)(hr:j=.ret→Wp (kr (h2.put (h.next+1) (z1a0 .exhausted j N c t h.next))) Q)(he:∀id,j=.exit id→Wp (ke id (h2.put (h.next+1) (z1a0 .exhausted j N c t h.next))) Q):Wp (rngK (rngX P both N (.fn g first cap) c t ds h) kn kr ke) Q:=by
 cases j with
 |none=>exact Wp.rngN hb e hq hs rfl (hn rfl)
 |ret=>exact Wp.rngR hb e hq hs rfl (hr rfl)
 |exit id=>exact Wp.rngE hb e hq hs rfl (he id rfl)
end
theorem y9{α:Type}{a:α}{K:α→R}{Q:ARes→AHeap→Prop}(hk:∀x,x=a→Wp (K x) Q):Wp (Abs.lett a K) Q:=hk a rfl
end
end Go.Proofs.Ytbhblbffdmiepaa.Abs
namespace Go.Proofs.Ytbhblbffdmiepaa
open Go.RowKit Abs
noncomputable def z121(both:z31)(t0:AV)(t1:AV)(self:Int→AHeap→R)(t3:Int)(h_4:AHeap):R:=obind (ze h_4 t1) fun v8=>obind (z2c v8) fun t8=>obind (z6c t8 t3 (z65 t8)) fun t10=>callN (both false 74 [zc t10] h_4) fun r11 h_10=>obind (z101 0 r11) fun v12=>obind (z2c v12) fun t12=>obind (z101 1 r11) fun v13=>obind (z16 .i64 v13) fun t13=>obind (z101 2 r11) fun v14=>obind (z16 .i64 v14) fun t14=>lett ((t14:Int) != 0) fun (t16:Bool)=>lett (fun (t23:Bool) (h_21:AHeap)=>ifB t23 (z186 [] h_21 fun h_24=>some (.ret (.tup []),h_24)) (lett (IntKind.i64.wrap (t3+t13)) fun (t26:Int)=>self t26 h_21)) fun j23=>ifB t16 (j23 true h_10) (callN (dynB Try.prog both t0 [.int .i64 t3,zc t12] h_10) fun r21 h_26=>obind (z33 r21) fun t21=>lett (!t21) fun (t22:Bool)=>j23 t22 h_26)
noncomputable def zf5(both:z31)(t0:AV)(t1:AV):Nat→Int→AHeap→R:=z143 (fun _ _=>none) (z121 both t0 t1)
theorem z1bb(both:z31)(t0:AV)(t1:AV)(m:Nat):zf5 both t0 t1 (m+1)=z121 both t0 t1 (zf5 both t0 t1 m):=rfl
noncomputable def z100(both:z31)(n:Nat)(t0:AV)(t1:AV)(h:AHeap):R:=zf5 both t0 t1 n 0 h
set_option maxHeartbeats 4000000 in
set_option maxRecDepth 20000 in
theorem z31f{both:z31}(hc:BothAll Try.prog both){n:Nat}{t0:AV}{t1:AV}{h:AHeap}{rR:ARes}{hR:AHeap}(hF:z100 both n t0 t1 h=some (rR,hR)):Says Try.prog 73 [t0,t1] h rR hR:=by
 unfold z100 at hF;refine z2ba (fn:=Try.f73) Try.func73 (c:=z32 Try.f73) (by kernel_rfl) (by kernel_rfl) (fun w0 m0=>WR.weaken (l':=[(0,t0),(1,t1)]) (y4 (by kernel_rfl) (y4 (by kernel_rfl) (ye _))) (WR.seqK (by kernel_rfl) (fun K1 n1 e1 q1 p1=>WR.region (by kernel_rfl) (WLR.val (d:=(some 3)) (v:=.int .i64 0) (h':=h) (by kernel_rfl) (by kernel_rfl) (by kernel_rfl) (WLR.nil (by kernel_rfl) (Go.weaken (l':=[(0,t0),(1,t1),(3,.int .i64 0)]) (y4 (by kernel_rfl) (y4 (by kernel_rfl) (y4 (by kernel_rfl) (ye _)))) (n1 (WR.blockK (by kernel_rfl) (fun K2 n2 s2 o2 q2 p2=>WR.loopK (by kernel_rfl) (fun I3 K3 b3 n3 e3 q3 p3=>?_))))))))))
 have L3:∀(m:Nat) (t3:Int) (h_4:AHeap),zf5 both t0 t1 m t3 h_4=some (rR,hR)→Go w0 m0 (Func.ntmps Try.f73) I3 [(0,t0),(1,t1),(3,.int .i64 t3)] [] h_4:=by
  intro m
  induction m with
  |zero=>intro t3 h_4 hF;cases hF
  |succ m ih3=>
   intro t3 h_4 hF;rw[z1bb] at hF;unfold z121 at hF;refine b3 (WR.blockK (by kernel_rfl) (fun K5 n5 s5 o5 q5 p5=>WR.seqK (by kernel_rfl) (fun K6 n6 e6 q6 p6=>WR.region (by kernel_rfl) ?_)))
   replace hF:=z3 hF;obtain⟨v8,e7,hF⟩:=hF
   replace hF:=z3 hF;obtain⟨t8,c8,hF⟩:=hF
   have c8:=z1d c8;subst c8;refine WLR.val (d:=(some 8)) (v:=zc t8) (h':=h_4) (by kernel_rfl) (by kernel_rfl) (Eq.trans (by kernel_rfl) (z14 (P:=Try.prog) (h:=h_4) (t:=9) (by kernel_rfl) e7)) (WLR.val (d:=(some 9)) (v:=.int .i64 t3) (h':=h_4) (by kernel_rfl) (by kernel_rfl) (by kernel_rfl) ?_)
   replace hF:=z3 hF;obtain⟨t10,e9,hF⟩:=hF
   refine WLR.val (d:=(some 10)) (v:=zc t10) (h':=h_4) (by kernel_rfl) (by kernel_rfl) (Eq.trans (by kernel_rfl) (z6b (P:=Try.prog) (h:=h_4) (t:=9) (A:=(some (.int .i64 t3))) (B:=none) (by kernel_rfl) (.inl ⟨_,rfl⟩) (.inr ⟨rfl,rfl⟩) e9)) ?_
   replace hF:=z1b hF;obtain⟨r11,h_10,e11,hF⟩:=hF
   refine WLR.call (hc.says.ok w0) (d:=(some 11)) (by kernel_rfl) (by kernel_rfl) (by kernel_rfl) e11 (WLR.val (d:=(some 7)) (v:=r11) (h':=h_10) (by kernel_rfl) (by kernel_rfl) (by kernel_rfl) ?_)
   replace hF:=z3 hF;obtain⟨v12,e12,hF⟩:=hF
   replace hF:=z3 hF;obtain⟨t12,c13,hF⟩:=hF
   have c13:=z1d c13;subst c13;refine WLR.val (d:=(some 12)) (v:=zc t12) (h':=h_10) (by kernel_rfl) (by kernel_rfl) (Eq.trans (by kernel_rfl) (z6a (h:=h_10) e12)) ?_
   replace hF:=z3 hF;obtain⟨v13,e14,hF⟩:=hF
   replace hF:=z3 hF;obtain⟨t13,c15,hF⟩:=hF
   have c15:=z19 c15;subst c15;refine WLR.val (d:=(some 13)) (v:=.int .i64 t13) (h':=h_10) (by kernel_rfl) (by kernel_rfl) (Eq.trans (by kernel_rfl) (z6a (h:=h_10) e14)) ?_
   replace hF:=z3 hF;obtain⟨v14,e16,hF⟩:=hF
   replace hF:=z3 hF;obtain⟨t14,c17,hF⟩:=hF
   have c17:=z19 c17;subst c17;refine WLR.val (d:=(some 14)) (v:=.int .i64 t14) (h':=h_10) (by kernel_rfl) (by kernel_rfl) (Eq.trans (by kernel_rfl) (z6a (h:=h_10) e16)) (WLR.val (d:=(some 4)) (v:=zc t12) (h':=h_10) (by kernel_rfl) (by kernel_rfl) (by kernel_rfl) (WLR.val (d:=(some 5)) (v:=.int .i64 t13) (h':=h_10) (by kernel_rfl) (by kernel_rfl) (by kernel_rfl) (WLR.val (d:=(some 6)) (v:=.int .i64 t14) (h':=h_10) (by kernel_rfl) (by kernel_rfl) (by kernel_rfl) (WLR.nil (by kernel_rfl) (Go.weaken (l':=[(0,t0),(1,t1),(3,.int .i64 t3),(4,zc t12),(5,.int .i64 t13),(6,.int .i64 t14)]) (y4 (by kernel_rfl) (y4 (by kernel_rfl) (y4 (by kernel_rfl) (y4 (by kernel_rfl) (y4 (by kernel_rfl) (y4 (by kernel_rfl) (ye _))))))) (n6 (WR.seqK (by kernel_rfl) (fun K18 n18 e18 q18 p18=>WR.seqK (by kernel_rfl) (fun K19 n19 e19 q19 p19=>WR.region (by kernel_rfl) (WLR.val (d:=(some 15)) (v:=.int .i64 t14) (h':=h_10) (by kernel_rfl) (by kernel_rfl) (by kernel_rfl) ?_))))))))))
   replace hF:=z9 hF;obtain⟨t16,e20,hF⟩:=hF
   refine WLR.val (d:=(some 16)) (v:=.bool t16) (h':=h_10) (by kernel_rfl) (by kernel_rfl) (z2a AV.bool e20 (by kernel_rfl)) (WLR.val (d:=(some 17)) (v:=.bool t16) (h':=h_10) (by kernel_rfl) (by kernel_rfl) (by kernel_rfl) ?_)
   replace hF:=z9 hF;obtain⟨j23,e22,hF⟩:=hF
   have J23:∀(t23:Bool) (h_21:AHeap),j23 t23 h_21=some (rR,hR)→WLR Try.prog w0 m0 (Func.ntmps Try.f73) none 0 (Code.ops (y7 (y7 (y6 (y7 (y7 (y7 (y6 (z32 Try.f73))))))))) 9 K19 [(0,t0),(1,t1),(3,.int .i64 t3),(5,.int .i64 t13),(23,.bool t23)] [] h_21:=by
    intro t23 h_21 hF;rw[e22] at hF;refine WLR.nil (by kernel_rfl) (Go.weaken (l':=[(0,t0),(1,t1),(3,.int .i64 t3),(5,.int .i64 t13),(23,.bool t23)]) (y4 (by kernel_rfl) (y4 (by kernel_rfl) (y4 (by kernel_rfl) (y4 (by kernel_rfl) (y4 (by kernel_rfl) (ye _)))))) (n19 ?_))
    cases t23 with
    |true=>
     replace hF:=z55 hF
     refine WR.cond_true (by kernel_rfl) (by kernel_rfl) (WR.ret (by kernel_rfl) (q18 (q5 (q3 (q2 (y2c hF (fun h_24 hF=>?_)))))));obtain⟨hF,hF2⟩:=z114 hF;subst hF;subst hF2;exact z2d2 (rs:=[]) (vs:=[]) (by kernel_rfl) zd (by kernel_rfl)
    |false=>
     replace hF:=z56 hF
     refine WR.cond_false (by kernel_rfl) (by kernel_rfl) (WR.skip (by kernel_rfl) (n18 (WR.region (by kernel_rfl) (WLR.val (d:=(some 24)) (v:=.int .i64 t3) (h':=h_21) (by kernel_rfl) (by kernel_rfl) (by kernel_rfl) (WLR.val (d:=(some 25)) (v:=.int .i64 t13) (h':=h_21) (by kernel_rfl) (by kernel_rfl) (by kernel_rfl) ?_)))))
     replace hF:=z9 hF;obtain⟨t26,e25,hF⟩:=hF
     exact WLR.val (d:=(some 26)) (v:=.int .i64 t26) (h':=h_21) (by kernel_rfl) (by kernel_rfl) (z2a (AV.int .i64) e25 (by kernel_rfl)) (WLR.val (d:=(some 3)) (v:=.int .i64 t26) (h':=h_21) (by kernel_rfl) (by kernel_rfl) (by kernel_rfl) (WLR.nil (by kernel_rfl) (Go.weaken (l':=[(0,t0),(1,t1),(3,.int .i64 t26)]) (y4 (by kernel_rfl) (y4 (by kernel_rfl) (y4 (by kernel_rfl) (ye _)))) (n5 (n3 (Go.weaken (y4 (by kernel_rfl) (y4 (by kernel_rfl) (y4 (by kernel_rfl) (ye _)))) (ih3 _ _ hF)))))))
   cases t16 with
   |true=>
    replace hF:=z55 hF
    exact WLR.not (d:=(some 18)) (by kernel_rfl) (by kernel_rfl) (WLR.not (d:=(some 19)) (by kernel_rfl) (by kernel_rfl) (WLR.not (d:=(some 20)) (by kernel_rfl) (by kernel_rfl) (WLR.not (d:=(some 21)) (by kernel_rfl) (by kernel_rfl) (WLR.not (d:=(some 22)) (by kernel_rfl) (by kernel_rfl) (WLR.val (d:=(some 23)) (v:=.bool true) (h':=h_10) (by kernel_rfl) (by kernel_rfl) (by kernel_rfl) (WLR.weaken (y4 (by kernel_rfl) (y4 (by kernel_rfl) (y4 (by kernel_rfl) (y4 (by kernel_rfl) (y4 (by kernel_rfl) (ye _)))))) (J23 _ _ hF)))))))
   |false=>
    replace hF:=z56 hF
    refine WLR.val (d:=(some 18)) (v:=t0) (h':=h_10) (by kernel_rfl) (by kernel_rfl) (by kernel_rfl) (WLR.val (d:=(some 19)) (v:=.int .i64 t3) (h':=h_10) (by kernel_rfl) (by kernel_rfl) (by kernel_rfl) (WLR.val (d:=(some 20)) (v:=zc t12) (h':=h_10) (by kernel_rfl) (by kernel_rfl) (by kernel_rfl) ?_))
    replace hF:=z1b hF;obtain⟨r21,h_26,e27,hF⟩:=hF
    replace hF:=z3 hF;obtain⟨t21,c28,hF⟩:=hF
    have c28:=z20 c28;subst c28;refine WLR.dyn (d:=(some 21)) hc e27 ?_
    replace hF:=z9 hF;obtain⟨t22,e29,hF⟩:=hF
    exact WLR.val (d:=(some 22)) (v:=.bool t22) (h':=h_26) (by kernel_rfl) (by kernel_rfl) (z2a AV.bool e29 (by kernel_rfl)) (WLR.val (d:=(some 23)) (v:=.bool t22) (h':=h_26) (by kernel_rfl) (by kernel_rfl) (by kernel_rfl) (WLR.weaken (y4 (by kernel_rfl) (y4 (by kernel_rfl) (y4 (by kernel_rfl) (y4 (by kernel_rfl) (y4 (by kernel_rfl) (ye _)))))) (J23 _ _ hF)))
 exact Go.weaken (y4 (by kernel_rfl) (y4 (by kernel_rfl) (y4 (by kernel_rfl) (ye _)))) (L3 _ _ _ hF)
noncomputable def zf4(both:z31)(n:Nat):FnT:=fun args h=>match args with
 |[x0,x1]=>z100 both n x0 x1 h
 |_=>none
set_option maxRecDepth 100000 in
theorem z28b(both:z31)(n:Nat)(t0:AV)(t1:AV)(h:AHeap):zf4 both n [t0,t1] h=z100 both n t0 t1 h:=
 rfl
theorem z28a{both:z31}(hc:BothAll Try.prog both)(n:Nat):z2b7 Try.prog 73 (zf4 both n):=by
 intro args h r h2 e;unfold zf4 at e
 split at e
 ·exact z31f hc (n:=n) e
 ·cases e
noncomputable def z4d(both:z31)(t0:AV)(v10:AV)(t11:Int)(k15:AHeap→R)(self:Int→AHeap→R)(t12:Int)(h_19:AHeap):R:=lett (decide (t12<t11)) fun (t13:Bool)=>ifB t13 (obind (z17a 5 v10 t12) fun t14=>obind (z28 h_19 5 t14) fun t15=>lett (newH h_19 35 [.int .i64 0,.int .i64 0,.int .i64 0,.int .i64 0,.str 0 0]) fun h_28=>obind (z22 h_28 5 t15 (z1a h_19)) fun h_30=>obind (z28 h_30 5 (z1a h_19)) fun t17=>callN (dynB Try.prog both t0 [.agg t17] h_30) fun r18 h_34=>obind (z33 r18) fun t18=>lett (!t18) fun (t19:Bool)=>ifB t19 (z186 [] h_34 fun h_38=>some (.ret (.tup []),h_38)) (lett (IntKind.i64.wrap (t12+1)) fun (t20:Int)=>self t20 h_34)) (k15 h_19)
noncomputable def z53(both:z31)(t0:AV)(v10:AV)(t11:Int)(k15:AHeap→R):Nat→Int→AHeap→R:=z143 (fun _ _=>none) (z4d both t0 v10 t11 k15)
theorem z89(both:z31)(t0:AV)(v10:AV)(t11:Int)(k15:AHeap→R)(m:Nat):z53 both t0 v10 t11 k15 (m+1)=z4d both t0 v10 t11 k15 (z53 both t0 v10 t11 k15 m):=rfl
noncomputable def z48(both:z31)(n:Nat)(t0:AV)(t1:AV)(h:AHeap):R:=obind (ze h t1) fun v5=>outK (z6f Try.prog h .eql 25 true (some v5) (some AV.nilp)) fun v6 h_4=>obind (z33 v6) fun t6=>ifB t6 (z186 [] h_4 fun h_7=>some (.ret (.tup []),h_7)) (obind (ze h_4 t1) fun v7=>obind (z39 v7) fun t8=>obind (z21 1 t8) fun t9=>obind (ze h_4 t9) fun v10=>obind (z18e v10) fun t11=>lett (fun (h_16:AHeap)=>z186 [] h_16 fun h_17=>some (.ret (.tup []),h_17)) fun k15=>z53 both t0 v10 t11 k15 n 0 h_4)
set_option maxHeartbeats 4000000 in
set_option maxRecDepth 20000 in
theorem z19b{both:z31}(hc:BothAll Try.prog both){n:Nat}{t0:AV}{t1:AV}{h:AHeap}{rR:ARes}{hR:AHeap}(hF:z48 both n t0 t1 h=some (rR,hR)):Says Try.prog 62 [t0,t1] h rR hR:=by
 unfold z48 at hF;refine z2ba (fn:=Try.f62) Try.func62 (c:=z32 Try.f62) (by kernel_rfl) (by kernel_rfl) (fun w0 m0=>WR.weaken (l':=[(0,t0),(1,t1)]) (y4 (by kernel_rfl) (y4 (by kernel_rfl) (ye _))) (WR.seqK (by kernel_rfl) (fun K1 n1 e1 q1 p1=>WR.seqK (by kernel_rfl) (fun K2 n2 e2 q2 p2=>WR.region (by kernel_rfl) ?_))))
 replace hF:=z3 hF;obtain⟨v5,e3,hF⟩:=hF
 refine WLR.val (d:=(some 5)) (v:=v5) (h':=h) (by kernel_rfl) (by kernel_rfl) (Eq.trans (by kernel_rfl) (z14 (P:=Try.prog) (h:=h) (t:=25) (by kernel_rfl) e3)) ?_
 replace hF:=z1e hF;obtain⟨v6,h_4,e5,hF⟩:=hF
 replace hF:=z3 hF;obtain⟨t6,c6,hF⟩:=hF
 have c6:=z20 c6;subst c6;refine WLR.val (d:=(some 6)) (v:=.bool t6) (h':=h_4) (by kernel_rfl) (by kernel_rfl) (Eq.trans (by kernel_rfl) e5) (WLR.nil (by kernel_rfl) (Go.weaken (l':=[(0,t0),(1,t1),(6,.bool t6)]) (y4 (by kernel_rfl) (y4 (by kernel_rfl) (y4 (by kernel_rfl) (ye _)))) (n2 ?_)))
 cases t6 with
 |true=>
  replace hF:=z55 hF
  refine WR.cond_true (by kernel_rfl) (by kernel_rfl) (WR.ret (by kernel_rfl) (q1 (y2c hF (fun h_7 hF=>?_))));obtain⟨hF,hF2⟩:=z114 hF;subst hF;subst hF2;exact z2d2 (rs:=[]) (vs:=[]) (by kernel_rfl) zd (by kernel_rfl)
 |false=>
  replace hF:=z56 hF
  refine WR.cond_false (by kernel_rfl) (by kernel_rfl) (WR.skip (by kernel_rfl) (n1 (WR.seqK (by kernel_rfl) (fun K8 n8 e8 q8 p8=>WR.region (by kernel_rfl) ?_))))
  replace hF:=z3 hF;obtain⟨v7,e9,hF⟩:=hF
  refine WLR.val (d:=(some 7)) (v:=v7) (h':=h_4) (by kernel_rfl) (by kernel_rfl) (Eq.trans (by kernel_rfl) (z14 (P:=Try.prog) (h:=h_4) (t:=25) (by kernel_rfl) e9)) ?_
  replace hF:=z3 hF;obtain⟨t8,e10,hF⟩:=hF
  refine WLR.val (d:=(some 8)) (v:=t8) (h':=h_4) (by kernel_rfl) (by kernel_rfl) (Eq.trans (by kernel_rfl) (z24 (h:=h_4) e10)) ?_
  replace hF:=z3 hF;obtain⟨t9,e11,hF⟩:=hF
  refine WLR.val (d:=(some 9)) (v:=t9) (h':=h_4) (by kernel_rfl) (by kernel_rfl) (Eq.trans (by kernel_rfl) (z15 (P:=Try.prog) (h:=h_4) (s:=89) (f:=1) (by kernel_rfl) e11)) ?_
  replace hF:=z3 hF;obtain⟨v10,e12,hF⟩:=hF
  refine WLR.val (d:=(some 10)) (v:=v10) (h':=h_4) (by kernel_rfl) (by kernel_rfl) (Eq.trans (by kernel_rfl) (z14 (P:=Try.prog) (h:=h_4) (t:=39) (by kernel_rfl) e12)) ?_
  replace hF:=z3 hF;obtain⟨t11,e13,hF⟩:=hF
  refine WLR.val (d:=(some 11)) (v:=.int .i64 t11) (h':=h_4) (by kernel_rfl) (by kernel_rfl) (Eq.trans (by kernel_rfl) (z422 (P:=Try.prog) (h:=h_4) (t:=39) (e':=35) (by kernel_rfl) e13)) (WLR.val (d:=(some 12)) (v:=.int .i64 0) (h':=h_4) (by kernel_rfl) (by kernel_rfl) (by kernel_rfl) (WLR.nil (by kernel_rfl) (Go.weaken (l':=[(0,t0),(10,v10),(11,.int .i64 t11),(12,.int .i64 0)]) (y4 (by kernel_rfl) (y4 (by kernel_rfl) (y4 (by kernel_rfl) (y4 (by kernel_rfl) (ye _))))) (n8 ?_))))
  replace hF:=z9 hF;obtain⟨k15,e15,hF⟩:=hF
  have J15:∀(h_16:AHeap),k15 h_16=some (rR,hR)→Go w0 m0 (Func.ntmps Try.f62) (FinM Try.prog Try.f62 w0 m0 rR hR .normal) [] [] h_16:=by
   intro h_16 hF;rw[e15] at hF;refine y4a hF (fun h_17 hF=>?_);obtain⟨hF,hF2⟩:=z114 hF;subst hF;subst hF2;exact z2d2 (rs:=[]) (vs:=[]) (by kernel_rfl) zd (by kernel_rfl)
  refine WR.blockK (by kernel_rfl) (fun K14 n14 s14 o14 q14 p14=>WR.loopK (by kernel_rfl) (fun I18 K18 b18 n18 e18 q18 p18=>?_))
  have L18:∀(m:Nat) (t12:Int) (h_19:AHeap),z53 both t0 v10 t11 k15 m t12 h_19=some (rR,hR)→Go w0 m0 (Func.ntmps Try.f62) I18 [(0,t0),(10,v10),(11,.int .i64 t11),(12,.int .i64 t12)] [] h_19:=by
   intro m
   induction m with
   |zero=>intro t12 h_19 hF;cases hF
   |succ m ih18=>
    intro t12 h_19 hF;rw[z89] at hF;unfold z4d at hF;refine b18 (WR.seqK (by kernel_rfl) (fun K20 n20 e20 q20 p20=>WR.region (by kernel_rfl) ?_))
    replace hF:=z9 hF;obtain⟨t13,e21,hF⟩:=hF
    refine WLR.val (d:=(some 13)) (v:=.bool t13) (h':=h_19) (by kernel_rfl) (by kernel_rfl) (z2a AV.bool e21 (by kernel_rfl)) (WLR.nil (by kernel_rfl) (Go.weaken (l':=[(0,t0),(10,v10),(11,.int .i64 t11),(12,.int .i64 t12),(13,.bool t13)]) (y4 (by kernel_rfl) (y4 (by kernel_rfl) (y4 (by kernel_rfl) (y4 (by kernel_rfl) (y4 (by kernel_rfl) (ye _)))))) (n20 (WR.seqK (by kernel_rfl) (fun K22 n22 e22 q22 p22=>?_)))))
    cases t13 with
    |true=>
     replace hF:=z55 hF
     refine WR.cond_true (by kernel_rfl) (by kernel_rfl) (WR.skip (by kernel_rfl) (n22 (WR.seqK (by kernel_rfl) (fun K23 n23 e23 q23 p23=>WR.blockK (by kernel_rfl) (fun K24 n24 s24 o24 q24 p24=>WR.seqK (by kernel_rfl) (fun K25 n25 e25 q25 p25=>WR.region (by kernel_rfl) ?_))))))
     replace hF:=z3 hF;obtain⟨t14,e26,hF⟩:=hF
     refine WLR.val (d:=(some 14)) (v:=t14) (h':=h_19) (by kernel_rfl) (by kernel_rfl) (Eq.trans (by kernel_rfl) (z179 (P:=Try.prog) (h:=h_19) (t:=39) (e':=35) (k:=.i64) (by kernel_rfl) (by kernel_rfl) (by kernel_rfl) e26)) ?_
     replace hF:=z3 hF;obtain⟨t15,e27,hF⟩:=hF
     refine WLR.val (d:=(some 15)) (v:=.agg t15) (h':=h_19) (by kernel_rfl) (by kernel_rfl) (Eq.trans (by kernel_rfl) (z35 (P:=Try.prog) (h:=h_19) (t:=35) (by kernel_rfl) (by kernel_rfl) e27)) ?_
     replace hF:=z9 hF;obtain⟨h_28,e29,hF⟩:=hF
     refine WLR.val (d:=(some 4)) (v:=(z1a h_19)) (h':=h_28) (by kernel_rfl) (by kernel_rfl) (z213 e29 (by kernel_rfl)) ?_
     replace hF:=z3 hF;obtain⟨h_30,e31,hF⟩:=hF
     refine WLR.eff (h':=h_30) (by kernel_rfl) (by kernel_rfl) (Eq.trans (by kernel_rfl) (z3b (P:=Try.prog) (h:=h_28) (t:=35) (v:=(.agg t15)) (by kernel_rfl) (by kernel_rfl) e31)) (WLR.nil (by kernel_rfl) (Go.weaken (l':=[(0,t0),(4,(z1a h_19)),(10,v10),(11,.int .i64 t11),(12,.int .i64 t12)]) (y4 (by kernel_rfl) (y4 (by kernel_rfl) (y4 (by kernel_rfl) (y4 (by kernel_rfl) (y4 (by kernel_rfl) (ye _)))))) (n25 (WR.seqK (by kernel_rfl) (fun K32 n32 e32 q32 p32=>WR.region (by kernel_rfl) (WLR.val (d:=(some 16)) (v:=t0) (h':=h_30) (by kernel_rfl) (by kernel_rfl) (by kernel_rfl) ?_))))))
     replace hF:=z3 hF;obtain⟨t17,e33,hF⟩:=hF
     refine WLR.val (d:=(some 17)) (v:=.agg t17) (h':=h_30) (by kernel_rfl) (by kernel_rfl) (Eq.trans (by kernel_rfl) (z35 (P:=Try.prog) (h:=h_30) (t:=35) (by kernel_rfl) (by kernel_rfl) e33)) ?_
     replace hF:=z1b hF;obtain⟨r18,h_34,e35,hF⟩:=hF
     replace hF:=z3 hF;obtain⟨t18,c36,hF⟩:=hF
     have c36:=z20 c36;subst c36;refine WLR.dyn (d:=(some 18)) hc e35 ?_
     replace hF:=z9 hF;obtain⟨t19,e37,hF⟩:=hF
     refine WLR.val (d:=(some 19)) (v:=.bool t19) (h':=h_34) (by kernel_rfl) (by kernel_rfl) (z2a AV.bool e37 (by kernel_rfl)) (WLR.nil (by kernel_rfl) (Go.weaken (l':=[(0,t0),(10,v10),(11,.int .i64 t11),(12,.int .i64 t12),(19,.bool t19)]) (y4 (by kernel_rfl) (y4 (by kernel_rfl) (y4 (by kernel_rfl) (y4 (by kernel_rfl) (y4 (by kernel_rfl) (ye _)))))) (n32 ?_)))
     cases t19 with
     |true=>
      replace hF:=z55 hF
      refine WR.cond_true (by kernel_rfl) (by kernel_rfl) (WR.ret (by kernel_rfl) (q24 (q23 (q18 (q14 (y2c hF (fun h_38 hF=>?_)))))));obtain⟨hF,hF2⟩:=z114 hF;subst hF;subst hF2;exact z2d2 (rs:=[]) (vs:=[]) (by kernel_rfl) zd (by kernel_rfl)
     |false=>
      replace hF:=z56 hF
      refine WR.cond_false (by kernel_rfl) (by kernel_rfl) (WR.skip (by kernel_rfl) (n24 (n23 (WR.region (by kernel_rfl) ?_))))
      replace hF:=z9 hF;obtain⟨t20,e39,hF⟩:=hF
      exact WLR.val (d:=(some 20)) (v:=.int .i64 t20) (h':=h_34) (by kernel_rfl) (by kernel_rfl) (z2a (AV.int .i64) e39 (by kernel_rfl)) (WLR.val (d:=(some 12)) (v:=.int .i64 t20) (h':=h_34) (by kernel_rfl) (by kernel_rfl) (by kernel_rfl) (WLR.nil (by kernel_rfl) (Go.weaken (l':=[(0,t0),(10,v10),(11,.int .i64 t11),(12,.int .i64 t20)]) (y4 (by kernel_rfl) (y4 (by kernel_rfl) (y4 (by kernel_rfl) (y4 (by kernel_rfl) (ye _))))) (n18 (Go.weaken (y4 (by kernel_rfl) (y4 (by kernel_rfl) (y4 (by kernel_rfl) (y4 (by kernel_rfl) (ye _))))) (ih18 _ _ hF))))))
    |false=>
     replace hF:=z56 hF
     exact WR.cond_false (by kernel_rfl) (by kernel_rfl) (WR.exit (by kernel_rfl) (e22 (e18 (s14 (by kernel_rfl) (Go.weaken (ye _) (J15 _ hF))))))
  exact Go.weaken (y4 (by kernel_rfl) (y4 (by kernel_rfl) (y4 (by kernel_rfl) (y4 (by kernel_rfl) (ye _))))) (L18 _ _ _ hF)
noncomputable def z52(both:z31)(n:Nat):FnT:=fun args h=>match args with
 |[x0,x1]=>z48 both n x0 x1 h
 |_=>none
set_option maxRecDepth 100000 in
theorem z176(both:z31)(n:Nat)(t0:AV)(t1:AV)(h:AHeap):z52 both n [t0,t1] h=z48 both n t0 t1 h:=
 rfl
theorem z175{both:z31}(hc:BothAll Try.prog both)(n:Nat):z2b7 Try.prog 62 (z52 both n):=by
 intro args h r h2 e;unfold z52 at e
 split at e
 ·exact z19b hc (n:=n) e
 ·cases e
noncomputable def z38(_:z31)(_:Nat)(t2:AV)(t5:AV)(t12:Int)(t13:Bytes)(h:AHeap):R:=some (.ret (.tup [t2,t5,.int .i64 t12,zc t13]),h)
set_option maxHeartbeats 4000000 in
set_option maxRecDepth 20000 in
theorem z174{both:z31}(_:BothAll Try.prog both){n:Nat}{t2:AV}{t5:AV}{t12:Int}{t13:Bytes}{h:AHeap}{rR:ARes}{hR:AHeap}(hF:z38 both n t2 t5 t12 t13 h=some (rR,hR)){w0:Base}{m0:Map}{rd:Option Nat}{nR:Nat}{ds:DefT}:WR Try.prog w0 m0 (Func.ntmps Try.f32) rd nR (y21 (y7 (y6 (y7 (y6 (y6 (z32 Try.f32))))))) (z47f w0 m0 (Func.ntmps Try.f32) .normal ⟨Fr.tree (tupFr [2,5,6,7] rR),ds⟩ hR) [(2,t2),(5,t5),(12,.int .i64 t12),(13,zc t13)] ds h:=by
 unfold z38 at hF;refine WR.seqK (by kernel_rfl) (fun K23 n23 e23 q23 p23=>WR.region (by kernel_rfl) (WLR.val (d:=(some 6)) (v:=.int .i64 t12) (h':=h) (by kernel_rfl) (by kernel_rfl) (by kernel_rfl) (WLR.nil (by kernel_rfl) (Go.weaken (l':=[(2,t2),(5,t5),(6,.int .i64 t12),(13,zc t13)]) (y4 (by kernel_rfl) (y4 (by kernel_rfl) (y4 (by kernel_rfl) (y4 (by kernel_rfl) (ye _))))) (n23 (WR.region (by kernel_rfl) (WLR.val (d:=(some 7)) (v:=zc t13) (h':=h) (by kernel_rfl) (by kernel_rfl) (by kernel_rfl) (WLR.nil (by kernel_rfl) (Go.weaken (l':=[(2,t2),(5,t5),(6,.int .i64 t12),(7,zc t13)]) (y4 (by kernel_rfl) (y4 (by kernel_rfl) (y4 (by kernel_rfl) (y4 (by kernel_rfl) (ye _))))) ?_)))))))));obtain⟨hF,hF2⟩:=z114 hF;subst hF;subst hF2;exact y3f (l':=[(2,t2),(5,t5),(6,.int .i64 t12),(7,zc t13)]) (y4 (by kernel_rfl) (y4 (by kernel_rfl) (y4 (by kernel_rfl) (y4 (by kernel_rfl) (ye _)))))
noncomputable def z47(both:z31)(n:Nat):FnT:=fun args h=>match args with
 |[x2,x5,x12,x13]=>obind (z16 .i64 x12) fun t12=>obind (z2c x13) fun t13=>z38 both n x2 x5 t12 t13 h
 |_=>none
set_option maxRecDepth 100000 in
theorem z142(both:z31)(n:Nat)(t2:AV)(t5:AV)(t12:Int)(t13:Bytes)(h:AHeap):z47 both n [t2,t5,.int .i64 t12,zc t13] h=z38 both n t2 t5 t12 t13 h:=
 (Eq.trans (z1e9 (fun t12=>obind (z2c (zc t13)) fun t13=>z38 both n t2 t5 t12 t13 h) (z5 .i64 t12)) (Eq.trans (z1e9 (fun t13=>z38 both n t2 t5 t12 t13 h) (z12 t13)) rfl))
noncomputable def z37(both:z31)(_:Nat)(t2:AV)(t5:AV)(t6:Int)(t7:Bytes)(h:AHeap):R:=callN (both false 55 [zc t7] h) fun r16 h_26=>obind (z101 0 r16) fun v17=>obind (z104 v17) fun t17=>obind (z101 1 r16) fun v18=>obind (z33 v18) fun t18=>lett (newH h_26 35 [.int .i64 0,.int .i64 0,.int .i64 0,.int .i64 0,.str 0 0]) fun h_32=>obind (z22 h_32 5 t17 (z1a h_26)) fun h_34=>lett (!t18) fun (t20:Bool)=>lett (fun (t26:Bool) (h_39:AHeap)=>ifB t26 (some (.ret (.int .i64 2),h_39)) (obind (ze h_39 t2) fun v27=>obind (z28 h_39 5 (z1a h_26)) fun t28=>callN (both false 37 [v27,.agg t28] h_39) fun _ h_45=>lett (IntKind.i64.wrap (t6+(z65 t7))) fun (t33:Int)=>lett (IntKind.i64.wrap (t33+12)) fun (t34:Int)=>obind (z22 h_45 1 [.int .i64 t34] t5) fun h_49=>some (.ret (.int .i64 0),h_49))) fun j26=>ifB t20 (j26 true h_34) (obind (ze h_34 t2) fun v22=>obind (z28 h_34 5 (z1a h_26)) fun t23=>callN (both false 35 [v22,.agg t23] h_34) fun r24 h_53=>obind (z16 .i64 r24) fun t24=>lett ((t24:Int) != 0) fun (t25:Bool)=>j26 t25 h_53)
set_option maxHeartbeats 4000000 in
set_option maxRecDepth 20000 in
theorem z173{both:z31}(hc:BothAll Try.prog both){n:Nat}{t2:AV}{t5:AV}{t6:Int}{t7:Bytes}{h:AHeap}{rR:ARes}{hR:AHeap}(hF:z37 both n t2 t5 t6 t7 h=some (rR,hR)){w0:Base}{m0:Map}{rd:Option Nat}{nR:Nat}{ds:DefT}:WR Try.prog w0 m0 (Func.ntmps Try.f32) rd nR (y1d (y7 (y6 (y7 (y6 (y6 (z32 Try.f32))))))) (z47f w0 m0 (Func.ntmps Try.f32) (decE rR) ⟨Fr.tree [],ds⟩ hR) [(2,t2),(5,t5),(6,.int .i64 t6),(7,zc t7)] ds h:=by
 unfold z37 at hF;refine WR.blockK (by kernel_rfl) (fun K24 n24 s24 o24 q24 p24=>WR.seqK (by kernel_rfl) (fun K25 n25 e25 q25 p25=>WR.region (by kernel_rfl) (WLR.val (d:=(some 15)) (v:=zc t7) (h':=h) (by kernel_rfl) (by kernel_rfl) (by kernel_rfl) ?_)))
 replace hF:=z1b hF;obtain⟨r16,h_26,e27,hF⟩:=hF
 refine WLR.call (hc.says.ok w0) (d:=(some 16)) (by kernel_rfl) (by kernel_rfl) (by kernel_rfl) e27 (WLR.val (d:=(some 14)) (v:=r16) (h':=h_26) (by kernel_rfl) (by kernel_rfl) (by kernel_rfl) ?_)
 replace hF:=z3 hF;obtain⟨v17,e28,hF⟩:=hF
 replace hF:=z3 hF;obtain⟨t17,c29,hF⟩:=hF
 have c29:=z7c c29;subst c29;refine WLR.val (d:=(some 17)) (v:=.agg t17) (h':=h_26) (by kernel_rfl) (by kernel_rfl) (Eq.trans (by kernel_rfl) (z6a (h:=h_26) e28)) ?_
 replace hF:=z3 hF;obtain⟨v18,e30,hF⟩:=hF
 replace hF:=z3 hF;obtain⟨t18,c31,hF⟩:=hF
 have c31:=z20 c31;subst c31;refine WLR.val (d:=(some 18)) (v:=.bool t18) (h':=h_26) (by kernel_rfl) (by kernel_rfl) (Eq.trans (by kernel_rfl) (z6a (h:=h_26) e30)) ?_
 replace hF:=z9 hF;obtain⟨h_32,e33,hF⟩:=hF
 refine WLR.val (d:=(some 8)) (v:=(z1a h_26)) (h':=h_32) (by kernel_rfl) (by kernel_rfl) (z213 e33 (by kernel_rfl)) ?_
 replace hF:=z3 hF;obtain⟨h_34,e35,hF⟩:=hF
 refine WLR.eff (h':=h_34) (by kernel_rfl) (by kernel_rfl) (Eq.trans (by kernel_rfl) (z3b (P:=Try.prog) (h:=h_32) (t:=35) (v:=(.agg t17)) (by kernel_rfl) (by kernel_rfl) e35)) (WLR.val (d:=(some 9)) (v:=.bool t18) (h':=h_34) (by kernel_rfl) (by kernel_rfl) (by kernel_rfl) (WLR.nil (by kernel_rfl) (Go.weaken (l':=[(2,t2),(5,t5),(6,.int .i64 t6),(7,zc t7),(8,(z1a h_26)),(9,.bool t18)]) (y4 (by kernel_rfl) (y4 (by kernel_rfl) (y4 (by kernel_rfl) (y4 (by kernel_rfl) (y4 (by kernel_rfl) (y4 (by kernel_rfl) (ye _))))))) (n25 (WR.seqK (by kernel_rfl) (fun K36 n36 e36 q36 p36=>WR.seqK (by kernel_rfl) (fun K37 n37 e37 q37 p37=>WR.region (by kernel_rfl) (WLR.val (d:=(some 19)) (v:=.bool t18) (h':=h_34) (by kernel_rfl) (by kernel_rfl) (by kernel_rfl) ?_))))))))
 replace hF:=z9 hF;obtain⟨t20,e38,hF⟩:=hF
 refine WLR.val (d:=(some 20)) (v:=.bool t20) (h':=h_34) (by kernel_rfl) (by kernel_rfl) (z2a AV.bool e38 (by kernel_rfl)) (WLR.val (d:=(some 21)) (v:=.bool t20) (h':=h_34) (by kernel_rfl) (by kernel_rfl) (by kernel_rfl) ?_)
 replace hF:=z9 hF;obtain⟨j26,e40,hF⟩:=hF
 have J41:∀(t26:Bool) (h_39:AHeap),j26 t26 h_39=some (rR,hR)→WLR Try.prog w0 m0 (Func.ntmps Try.f32) rd nR (Code.ops (y7 (y7 (y6 (y7 (y1d (y7 (y6 (y7 (y6 (y6 (z32 Try.f32)))))))))))) 8 K37 [(2,t2),(5,t5),(6,.int .i64 t6),(7,zc t7),(8,(z1a h_26)),(26,.bool t26)] ds h_39:=by
  intro t26 h_39 hF;rw[e40] at hF;refine WLR.nil (by kernel_rfl) (Go.weaken (l':=[(2,t2),(5,t5),(6,.int .i64 t6),(7,zc t7),(8,(z1a h_26)),(26,.bool t26)]) (y4 (by kernel_rfl) (y4 (by kernel_rfl) (y4 (by kernel_rfl) (y4 (by kernel_rfl) (y4 (by kernel_rfl) (y4 (by kernel_rfl) (ye _))))))) (n37 ?_))
  cases t26 with
  |true=>
   replace hF:=z55 hF
   refine WR.cond_true (by kernel_rfl) (by kernel_rfl) (WR.exit (by kernel_rfl) (e36 (o24 (by kernel_rfl) ?_)));obtain⟨hF,hF2⟩:=z114 hF;subst hF;subst hF2;exact Go.postE
  |false=>
   replace hF:=z56 hF
   refine WR.cond_false (by kernel_rfl) (by kernel_rfl) (WR.skip (by kernel_rfl) (n36 (WR.seqK (by kernel_rfl) (fun K42 n42 e42 q42 p42=>WR.region (by kernel_rfl) ?_))))
   replace hF:=z3 hF;obtain⟨v27,e43,hF⟩:=hF
   refine WLR.val (d:=(some 27)) (v:=v27) (h':=h_39) (by kernel_rfl) (by kernel_rfl) (Eq.trans (by kernel_rfl) (z14 (P:=Try.prog) (h:=h_39) (t:=25) (by kernel_rfl) e43)) ?_
   replace hF:=z3 hF;obtain⟨t28,e44,hF⟩:=hF
   refine WLR.val (d:=(some 28)) (v:=.agg t28) (h':=h_39) (by kernel_rfl) (by kernel_rfl) (Eq.trans (by kernel_rfl) (z35 (P:=Try.prog) (h:=h_39) (t:=35) (by kernel_rfl) (by kernel_rfl) e44)) ?_
   replace hF:=z1b hF;obtain⟨r29,h_45,e46,hF⟩:=hF
   refine WLR.call (hc.says.ok w0) (d:=(some 29)) (by kernel_rfl) (by kernel_rfl) (by kernel_rfl) e46 (WLR.nil (by kernel_rfl) (Go.weaken (l':=[(5,t5),(6,.int .i64 t6),(7,zc t7)]) (y4 (by kernel_rfl) (y4 (by kernel_rfl) (y4 (by kernel_rfl) (ye _)))) (n42 (WR.region (by kernel_rfl) (WLR.val (d:=(some 30)) (v:=.int .i64 t6) (h':=h_45) (by kernel_rfl) (by kernel_rfl) (by kernel_rfl) (WLR.val (d:=(some 31)) (v:=zc t7) (h':=h_45) (by kernel_rfl) (by kernel_rfl) (by kernel_rfl) (WLR.val (d:=(some 32)) (v:=.int .i64 (z65 t7)) (h':=h_45) (by kernel_rfl) (by kernel_rfl) (by kernel_rfl) ?_)))))))
   replace hF:=z9 hF;obtain⟨t33,e47,hF⟩:=hF
   refine WLR.val (d:=(some 33)) (v:=.int .i64 t33) (h':=h_45) (by kernel_rfl) (by kernel_rfl) (z2a (AV.int .i64) e47 (by kernel_rfl)) ?_
   replace hF:=z9 hF;obtain⟨t34,e48,hF⟩:=hF
   refine WLR.val (d:=(some 34)) (v:=.int .i64 t34) (h':=h_45) (by kernel_rfl) (by kernel_rfl) (z2a (AV.int .i64) e48 (by kernel_rfl)) ?_
   replace hF:=z3 hF;obtain⟨h_49,e50,hF⟩:=hF
   refine WLR.eff (h':=h_49) (by kernel_rfl) (by kernel_rfl) (Eq.trans (by kernel_rfl) (z3b (P:=Try.prog) (h:=h_45) (t:=3) (v:=(.int .i64 t34)) (by kernel_rfl) (by kernel_rfl) e50)) (WLR.nil (by kernel_rfl) (Go.weaken (l':=[]) (ye _) (n24 ?_)));obtain⟨hF,hF2⟩:=z114 hF;subst hF;subst hF2;exact y3f (l':=[]) (ye _)
 cases t20 with
 |true=>
  replace hF:=z55 hF
  exact WLR.not (d:=(some 22)) (by kernel_rfl) (by kernel_rfl) (WLR.not (d:=(some 23)) (by kernel_rfl) (by kernel_rfl) (WLR.not (d:=(some 24)) (by kernel_rfl) (by kernel_rfl) (WLR.not (d:=(some 25)) (by kernel_rfl) (by kernel_rfl) (WLR.val (d:=(some 26)) (v:=.bool true) (h':=h_34) (by kernel_rfl) (by kernel_rfl) (by kernel_rfl) (WLR.weaken (y4 (by kernel_rfl) (y4 (by kernel_rfl) (y4 (by kernel_rfl) (y4 (by kernel_rfl) (y4 (by kernel_rfl) (y4 (by kernel_rfl) (ye _))))))) (J41 _ _ hF))))))
 |false=>
  replace hF:=z56 hF
  replace hF:=z3 hF;obtain⟨v22,e51,hF⟩:=hF
  refine WLR.val (d:=(some 22)) (v:=v22) (h':=h_34) (by kernel_rfl) (by kernel_rfl) (Eq.trans (by kernel_rfl) (z14 (P:=Try.prog) (h:=h_34) (t:=25) (by kernel_rfl) e51)) ?_
  replace hF:=z3 hF;obtain⟨t23,e52,hF⟩:=hF
  refine WLR.val (d:=(some 23)) (v:=.agg t23) (h':=h_34) (by kernel_rfl) (by kernel_rfl) (Eq.trans (by kernel_rfl) (z35 (P:=Try.prog) (h:=h_34) (t:=35) (by kernel_rfl) (by kernel_rfl) e52)) ?_
  replace hF:=z1b hF;obtain⟨r24,h_53,e54,hF⟩:=hF
  replace hF:=z3 hF;obtain⟨t24,c55,hF⟩:=hF
  have c55:=z19 c55;subst c55;refine WLR.call (hc.says.ok w0) (d:=(some 24)) (by kernel_rfl) (by kernel_rfl) (by kernel_rfl) e54 ?_
  replace hF:=z9 hF;obtain⟨t25,e56,hF⟩:=hF
  exact WLR.val (d:=(some 25)) (v:=.bool t25) (h':=h_53) (by kernel_rfl) (by kernel_rfl) (z2a AV.bool e56 (by kernel_rfl)) (WLR.val (d:=(some 26)) (v:=.bool t25) (h':=h_53) (by kernel_rfl) (by kernel_rfl) (by kernel_rfl) (WLR.weaken (y4 (by kernel_rfl) (y4 (by kernel_rfl) (y4 (by kernel_rfl) (y4 (by kernel_rfl) (y4 (by kernel_rfl) (y4 (by kernel_rfl) (ye _))))))) (J41 _ _ hF)))
noncomputable def z46(both:z31)(n:Nat):FnT:=fun args h=>match args with
 |[x2,x5,x6,x7]=>obind (z16 .i64 x6) fun t6=>obind (z2c x7) fun t7=>z37 both n x2 x5 t6 t7 h
 |_=>none
set_option maxRecDepth 100000 in
theorem z141(both:z31)(n:Nat)(t2:AV)(t5:AV)(t6:Int)(t7:Bytes)(h:AHeap):z46 both n [t2,t5,.int .i64 t6,zc t7] h=z37 both n t2 t5 t6 t7 h:=
 (Eq.trans (z1e9 (fun t6=>obind (z2c (zc t7)) fun t7=>z37 both n t2 t5 t6 t7 h) (z5 .i64 t6)) (Eq.trans (z1e9 (fun t7=>z37 both n t2 t5 t6 t7 h) (z12 t7)) rfl))
noncomputable def z8(n:Nat):LSite:=⟨Func.ntmps Try.f32,(y7 (y6 (y7 (y6 (y6 (z32 Try.f32)))))),[2,5,12,13],fun both=>z47 both n,[2,5,6,7],fun both=>z46 both n⟩
set_option maxRecDepth 20000 in
theorem z182(n:Nat):LSite.ok Try.prog (z8 n) where
 A := fun hc vs h r h2 e0 w0 m0 rd n2 ds => by
   have e:z47 _ n vs h=some (r,h2):=e0;clear e0;unfold z47 at e
   split at e
   ·replace e := z3 e; obtain ⟨t12, c12, e⟩ := e; have c12 := z19 c12; subst c12
    replace e:=z3 e;obtain⟨t13,c13,e⟩:=e;have c13:=z1d c13;subst c13
    exact z174 hc (n:=n) e
   ·cases e
 B := fun hc vs h r h2 e0 w0 m0 rd n2 ds => by
   have e:z46 _ n vs h=some (r,h2):=e0;clear e0;unfold z46 at e
   split at e
   ·replace e := z3 e; obtain ⟨t6, c6, e⟩ := e; have c6 := z19 c6; subst c6
    replace e:=z3 e;obtain⟨t7,c7,e⟩:=e;have c7:=z1d c7;subst c7
    exact z173 hc (n:=n) e
   ·cases e
noncomputable def z41(both:z31)(_:Nat)(t0:AV)(t1:Bytes)(h:AHeap):R:=outK (za8 h 25 (some t0)) fun v2 h_2=>lett (newH h_2 3 [.int .i64 0]) fun h_5=>obind (z22 h_5 1 [.int .i64 0] (z1a h_2)) fun h_7=>callN (both false 54 [zc t1] h_7) fun r11 h_11=>lett (fun (d:DefT) (h_15:AHeap)=>obind (ze h_15 (z1a h_2)) fun v35=>obind (z16 .i64 v35) fun t35=>z186 d h_15 fun h_19=>some (.ret (.int .i64 t35),h_19)) fun k14=>rngK (rngX Try.prog both (Func.ntmps Try.f32) r11 (y7 (y6 (y7 (y6 (y6 (z32 Try.f32)))))) (Fr.tree [(2,v2),(4,.int .i64 0),(5,(z1a h_2)),(11,r11)]) [] h_11) (fun h_20=>k14 (dmark (AHeap.next h_11)::[]) h_20) (fun _=>none) (fun id h_22=>ifB (Nat.beq id 0) (k14 (dmark (AHeap.next h_11)::[]) h_22) (none))
set_option maxHeartbeats 4000000 in
set_option maxRecDepth 20000 in
theorem z1b1{both:z31}(hc:BothAll Try.prog both){n:Nat}{t0:AV}{t1:Bytes}{h:AHeap}{rR:ARes}{hR:AHeap}(hF:z41 both n t0 t1 h=some (rR,hR)):Says Try.prog 32 [t0,zc t1] h rR hR:=by
 unfold z41 at hF;refine z2ba (fn:=Try.f32) Try.func32 (c:=z32 Try.f32) (by kernel_rfl) (by kernel_rfl) (fun w0 m0=>WR.weaken (l':=[(0,t0),(1,zc t1)]) (y4 (by kernel_rfl) (y4 (by kernel_rfl) (ye _))) (WR.seqK (by kernel_rfl) (fun K1 n1 e1 q1 p1=>WR.region (by kernel_rfl) ?_)))
 replace hF:=z1e hF;obtain⟨v2,h_2,e3,hF⟩:=hF
 refine WLR.val (d:=(some 2)) (v:=v2) (h':=h_2) (by kernel_rfl) (by kernel_rfl) (Eq.trans (by kernel_rfl) e3) (WLR.val (d:=(some 4)) (v:=.int .i64 0) (h':=h_2) (by kernel_rfl) (by kernel_rfl) (by kernel_rfl) (WLR.nil (by kernel_rfl) (Go.weaken (l':=[(1,zc t1),(2,v2),(4,.int .i64 0)]) (y4 (by kernel_rfl) (y4 (by kernel_rfl) (y4 (by kernel_rfl) (ye _)))) (n1 (WR.seqK (by kernel_rfl) (fun K4 n4 e4 q4 p4=>WR.region (by kernel_rfl) ?_))))))
 replace hF:=z9 hF;obtain⟨h_5,e6,hF⟩:=hF
 refine WLR.val (d:=(some 5)) (v:=(z1a h_2)) (h':=h_5) (by kernel_rfl) (by kernel_rfl) (z213 e6 (by kernel_rfl)) ?_
 replace hF:=z3 hF;obtain⟨h_7,e8,hF⟩:=hF
 refine WLR.eff (h':=h_7) (by kernel_rfl) (by kernel_rfl) (Eq.trans (by kernel_rfl) (z3b (P:=Try.prog) (h:=h_5) (t:=3) (v:=(.int .i64 0)) (by kernel_rfl) (by kernel_rfl) e8)) (WLR.nil (by kernel_rfl) (Go.weaken (l':=[(1,zc t1),(2,v2),(4,.int .i64 0),(5,(z1a h_2))]) (y4 (by kernel_rfl) (y4 (by kernel_rfl) (y4 (by kernel_rfl) (y4 (by kernel_rfl) (ye _))))) (n4 (WR.seqK (by kernel_rfl) (fun K9 n9 e9 q9 p9=>WR.seqK (by kernel_rfl) (fun K10 n10 e10 q10 p10=>WR.region (by kernel_rfl) (WLR.val (d:=(some 10)) (v:=zc t1) (h':=h_7) (by kernel_rfl) (by kernel_rfl) (by kernel_rfl) ?_)))))))
 replace hF:=z1b hF;obtain⟨r11,h_11,e12,hF⟩:=hF
 refine WLR.call (hc.says.ok w0) (d:=(some 11)) (by kernel_rfl) (by kernel_rfl) (by kernel_rfl) e12 (WLR.nil (by kernel_rfl) (Go.weaken (l':=[(2,v2),(4,.int .i64 0),(5,(z1a h_2)),(11,r11)]) (y4 (by kernel_rfl) (y4 (by kernel_rfl) (y4 (by kernel_rfl) (y4 (by kernel_rfl) (ye _))))) (n10 ?_)))
 replace hF:=z9 hF;obtain⟨k14,e14,hF⟩:=hF
 have J14:∀(d:DefT) (h_15:AHeap),k14 d h_15=some (rR,hR)→Go w0 m0 (Func.ntmps Try.f32) (K9 .normal) [(5,(z1a h_2))] d h_15:=by
  intro d h_15 hF;rw[e14] at hF;refine n9 (WR.seqK (by kernel_rfl) (fun K16 n16 e16 q16 p16=>WR.region (by kernel_rfl) ?_))
  replace hF:=z3 hF;obtain⟨v35,e17,hF⟩:=hF
  replace hF:=z3 hF;obtain⟨t35,c18,hF⟩:=hF
  have c18:=z19 c18;subst c18;refine WLR.val (d:=(some 35)) (v:=.int .i64 t35) (h':=h_15) (by kernel_rfl) (by kernel_rfl) (Eq.trans (by kernel_rfl) (z14 (P:=Try.prog) (h:=h_15) (t:=3) (by kernel_rfl) e17)) (WLR.val (d:=(some 4)) (v:=.int .i64 t35) (h':=h_15) (by kernel_rfl) (by kernel_rfl) (by kernel_rfl) (WLR.nil (by kernel_rfl) (Go.weaken (l':=[(4,.int .i64 t35)]) (y4 (by kernel_rfl) (ye _)) (n16 (WR.ret (by kernel_rfl) (y2c hF (fun h_19 hF=>?_)))))));obtain⟨hF,hF2⟩:=z114 hF;subst hF;subst hF2;exact z2d2 (rs:=[.tmp 4]) (vs:=[.int .i64 t35]) (by kernel_rfl) (z27a (by kernel_rfl) zd) (by kernel_rfl)
 refine WR.blockK (by kernel_rfl) (fun K13 n13 s13 o13 q13 p13=>WR.rng hc hF (fun h_20 hF=>?_) (fun h_21 hF=>?_) (fun id h_22 hF=>?_))
 ·skip
  exact n13 (Go.weaken (y4 (by kernel_rfl) (ye _)) (J14 _ _ hF))
 ·skip
  cases hF
 ·skip
  obtain⟨rfl,hF⟩:=ifB_id hF;exact s13 (by kernel_rfl) (Go.weaken (y4 (by kernel_rfl) (ye _)) (J14 _ _ hF))
noncomputable def z58(both:z31)(n:Nat):FnT:=fun args h=>match args with
 |[x0,x1]=>obind (z2c x1) fun t1=>z41 both n x0 t1 h
 |_=>none
set_option maxRecDepth 100000 in
theorem z181(both:z31)(n:Nat)(t0:AV)(t1:Bytes)(h:AHeap):z58 both n [t0,zc t1] h=z41 both n t0 t1 h:=
 (Eq.trans (z1e9 (fun t1=>z41 both n t0 t1 h) (z12 t1)) rfl)
theorem z180{both:z31}(hc:BothAll Try.prog both)(n:Nat):z2b7 Try.prog 32 (z58 both n):=by
 intro args h r h2 e;unfold z58 at e
 split at e
 ·replace e := z3 e; obtain ⟨t1, c1, e⟩ := e; have c1 := z1d c1; subst c1
  exact z1b1 hc (n:=n) e
 ·cases e
noncomputable def zbf(_:z31)(_:Nat)(t5:AV)(t12:List AV)(h:AHeap):R:=lett (newH h 35 [.int .i64 0,.int .i64 0,.int .i64 0,.int .i64 0,.str 0 0]) fun h_24=>obind (z22 h_24 5 t12 (z1a h)) fun h_26=>some (.ret (.tup [t5,(z1a h)]),h_26)
set_option maxHeartbeats 4000000 in
set_option maxRecDepth 20000 in
theorem z284{both:z31}(_:BothAll Try.prog both){n:Nat}{t5:AV}{t12:List AV}{h:AHeap}{rR:ARes}{hR:AHeap}(hF:zbf both n t5 t12 h=some (rR,hR)){w0:Base}{m0:Map}{rd:Option Nat}{nR:Nat}{ds:DefT}:WR Try.prog w0 m0 (Func.ntmps Try.f14) rd nR (y21 (y7 (y6 (y7 (y6 (y6 (y6 (y6 (z32 Try.f14))))))))) (z47f w0 m0 (Func.ntmps Try.f14) .normal ⟨Fr.tree (tupFr [5,6] rR),ds⟩ hR) [(5,t5),(12,.agg t12)] ds h:=by
 unfold zbf at hF;refine WR.region (by kernel_rfl) ?_
 replace hF:=z9 hF;obtain⟨h_24,e25,hF⟩:=hF
 refine WLR.val (d:=(some 6)) (v:=(z1a h)) (h':=h_24) (by kernel_rfl) (by kernel_rfl) (z213 e25 (by kernel_rfl)) ?_
 replace hF:=z3 hF;obtain⟨h_26,e27,hF⟩:=hF
 refine WLR.eff (h':=h_26) (by kernel_rfl) (by kernel_rfl) (Eq.trans (by kernel_rfl) (z3b (P:=Try.prog) (h:=h_24) (t:=35) (v:=(.agg t12)) (by kernel_rfl) (by kernel_rfl) e27)) (WLR.nil (by kernel_rfl) (Go.weaken (l':=[(5,t5),(6,(z1a h))]) (y4 (by kernel_rfl) (y4 (by kernel_rfl) (ye _))) ?_));obtain⟨hF,hF2⟩:=z114 hF;subst hF;subst hF2;exact y3f (l':=[(5,t5),(6,(z1a h))]) (y4 (by kernel_rfl) (y4 (by kernel_rfl) (ye _)))
noncomputable def zaa(both:z31)(n:Nat):FnT:=fun args h=>match args with
 |[x5,x12]=>obind (z104 x12) fun t12=>zbf both n x5 t12 h
 |_=>none
set_option maxRecDepth 100000 in
theorem z1ff(both:z31)(n:Nat)(t5:AV)(t12:List AV)(h:AHeap):zaa both n [t5,.agg t12] h=zbf both n t5 t12 h:=
 (Eq.trans (z1e9 (fun t12=>zbf both n t5 t12 h) (z2b t12)) rfl)
noncomputable def zf0(_:z31)(_:Nat)(t5:AV)(t6:AV)(h:AHeap):R:=obind (ze h t5) fun v13=>obind (z28 h 5 t6) fun t14=>outK (z183 Try.prog h 39 1 [(0,.agg t14)]) fun v15 h_31=>outK (z34 Try.prog h_31 39 39 v13 v15) fun v16 h_33=>obind (z22 h_33 1 (AV.cells v16) t5) fun h_35=>some (.ret (.int .i64 0),h_35)
set_option maxHeartbeats 4000000 in
set_option maxRecDepth 20000 in
theorem z283{both:z31}(_:BothAll Try.prog both){n:Nat}{t5:AV}{t6:AV}{h:AHeap}{rR:ARes}{hR:AHeap}(hF:zf0 both n t5 t6 h=some (rR,hR)){w0:Base}{m0:Map}{rd:Option Nat}{nR:Nat}{ds:DefT}:WR Try.prog w0 m0 (Func.ntmps Try.f14) rd nR (y1d (y7 (y6 (y7 (y6 (y6 (y6 (y6 (z32 Try.f14))))))))) (z47f w0 m0 (Func.ntmps Try.f14) (decE rR) ⟨Fr.tree [],ds⟩ hR) [(5,t5),(6,t6)] ds h:=by
 unfold zf0 at hF;refine WR.blockK (by kernel_rfl) (fun K28 n28 s28 o28 q28 p28=>WR.region (by kernel_rfl) ?_)
 replace hF:=z3 hF;obtain⟨v13,e29,hF⟩:=hF
 refine WLR.val (d:=(some 13)) (v:=v13) (h':=h) (by kernel_rfl) (by kernel_rfl) (Eq.trans (by kernel_rfl) (z14 (P:=Try.prog) (h:=h) (t:=39) (by kernel_rfl) e29)) ?_
 replace hF:=z3 hF;obtain⟨t14,e30,hF⟩:=hF
 refine WLR.val (d:=(some 14)) (v:=.agg t14) (h':=h) (by kernel_rfl) (by kernel_rfl) (Eq.trans (by kernel_rfl) (z35 (P:=Try.prog) (h:=h) (t:=35) (by kernel_rfl) (by kernel_rfl) e30)) ?_
 replace hF:=z1e hF;obtain⟨v15,h_31,e32,hF⟩:=hF
 refine WLR.val (d:=(some 15)) (v:=v15) (h':=h_31) (by kernel_rfl) (by kernel_rfl) (Eq.trans (by kernel_rfl) e32) ?_
 replace hF:=z1e hF;obtain⟨v16,h_33,e34,hF⟩:=hF
 refine WLR.val (d:=(some 16)) (v:=v16) (h':=h_33) (by kernel_rfl) (by kernel_rfl) (Eq.trans (by kernel_rfl) e34) ?_
 replace hF:=z3 hF;obtain⟨h_35,e36,hF⟩:=hF
 refine WLR.eff (h':=h_35) (by kernel_rfl) (by kernel_rfl) (Eq.trans (by kernel_rfl) (z3b (P:=Try.prog) (h:=h_33) (t:=39) (v:=v16) (by kernel_rfl) (by kernel_rfl) e36)) (WLR.nil (by kernel_rfl) (Go.weaken (l':=[]) (ye _) (n28 ?_)));obtain⟨hF,hF2⟩:=z114 hF;subst hF;subst hF2;exact y3f (l':=[]) (ye _)
noncomputable def za9(both:z31)(n:Nat):FnT:=fun args h=>match args with
 |[x5,x6]=>zf0 both n x5 x6 h
 |_=>none
set_option maxRecDepth 100000 in
theorem z1fe(both:z31)(n:Nat)(t5:AV)(t6:AV)(h:AHeap):za9 both n [t5,t6] h=zf0 both n t5 t6 h:=
 rfl
noncomputable def z17(n:Nat):LSite:=⟨Func.ntmps Try.f14,(y7 (y6 (y7 (y6 (y6 (y6 (y6 (z32 Try.f14)))))))),[5,12],fun both=>zaa both n,[5,6],fun both=>za9 both n⟩
set_option maxRecDepth 20000 in
theorem z2b1(n:Nat):LSite.ok Try.prog (z17 n) where
 A := fun hc vs h r h2 e0 w0 m0 rd n2 ds => by
   have e:zaa _ n vs h=some (r,h2):=e0;clear e0;unfold zaa at e
   split at e
   ·replace e := z3 e; obtain ⟨t12, c12, e⟩ := e; have c12 := z7c c12; subst c12
    exact z284 hc (n:=n) e
   ·cases e
 B := fun hc vs h r h2 e0 w0 m0 rd n2 ds => by
   have e:za9 _ n vs h=some (r,h2):=e0;clear e0;unfold za9 at e
   split at e
   ·exact z283 hc (n:=n) e
   ·cases e
noncomputable def z131(both:z31)(_:Nat)(t0:AV)(h:AHeap):R:=callN (both false 39 [t0] h) fun r8 h_3=>outK (z6f Try.prog h_3 .eql 96 true (some r8) (some AV.nfn)) fun v10 h_7=>obind (z33 v10) fun t10=>ifB t10 (z186 [] h_7 fun h_11=>some (.ret (.tup [AV.nsl,.bool false]),h_11)) (lett (newH h_7 39 [.nsl]) fun h_13=>rngK (rngX Try.prog both (Func.ntmps Try.f14) r8 (y7 (y6 (y7 (y6 (y6 (y6 (y6 (z32 Try.f14)))))))) (Fr.tree [(2,AV.nsl),(3,.bool false),(5,(z1a h_7)),(11,r8)]) [] h_13) (fun h_18=>obind (ze h_18 (z1a h_7)) fun v17=>z186 (dmark (AHeap.next h_13)::[]) h_18 fun h_23=>some (.ret (.tup [v17,.bool true]),h_23)) (fun _=>none) (fun _ _=>none))
set_option maxHeartbeats 4000000 in
set_option maxRecDepth 20000 in
theorem z379{both:z31}(hc:BothAll Try.prog both){n:Nat}{t0:AV}{h:AHeap}{rR:ARes}{hR:AHeap}(hF:z131 both n t0 h=some (rR,hR)):Says Try.prog 14 [t0] h rR hR:=by
 unfold z131 at hF;refine z2ba (fn:=Try.f14) Try.func14 (c:=z32 Try.f14) (by kernel_rfl) (by kernel_rfl) (fun w0 m0=>WR.weaken (l':=[(0,t0)]) (y4 (by kernel_rfl) (ye _)) (WR.seqK (by kernel_rfl) (fun K1 n1 e1 q1 p1=>WR.region (by kernel_rfl) (WLR.val (d:=(some 2)) (v:=AV.nsl) (h':=h) (by kernel_rfl) (by kernel_rfl) (by kernel_rfl) (WLR.val (d:=(some 3)) (v:=.bool false) (h':=h) (by kernel_rfl) (by kernel_rfl) (by kernel_rfl) (WLR.nil (by kernel_rfl) (Go.weaken (l':=[(0,t0),(2,AV.nsl),(3,.bool false)]) (y4 (by kernel_rfl) (y4 (by kernel_rfl) (y4 (by kernel_rfl) (ye _)))) (n1 (WR.seqK (by kernel_rfl) (fun K2 n2 e2 q2 p2=>WR.region (by kernel_rfl) (WLR.val (d:=(some 7)) (v:=t0) (h':=h) (by kernel_rfl) (by kernel_rfl) (by kernel_rfl) ?_)))))))))))
 replace hF:=z1b hF;obtain⟨r8,h_3,e4,hF⟩:=hF
 refine WLR.call (hc.says.ok w0) (d:=(some 8)) (by kernel_rfl) (by kernel_rfl) (by kernel_rfl) e4 (WLR.val (d:=(some 4)) (v:=r8) (h':=h_3) (by kernel_rfl) (by kernel_rfl) (by kernel_rfl) (WLR.nil (by kernel_rfl) (Go.weaken (l':=[(2,AV.nsl),(3,.bool false),(4,r8)]) (y4 (by kernel_rfl) (y4 (by kernel_rfl) (y4 (by kernel_rfl) (ye _)))) (n2 (WR.seqK (by kernel_rfl) (fun K5 n5 e5 q5 p5=>WR.seqK (by kernel_rfl) (fun K6 n6 e6 q6 p6=>WR.region (by kernel_rfl) (WLR.val (d:=(some 9)) (v:=r8) (h':=h_3) (by kernel_rfl) (by kernel_rfl) (by kernel_rfl) ?_))))))))
 replace hF:=z1e hF;obtain⟨v10,h_7,e8,hF⟩:=hF
 replace hF:=z3 hF;obtain⟨t10,c9,hF⟩:=hF
 have c9:=z20 c9;subst c9;refine WLR.val (d:=(some 10)) (v:=.bool t10) (h':=h_7) (by kernel_rfl) (by kernel_rfl) (Eq.trans (by kernel_rfl) e8) (WLR.nil (by kernel_rfl) (Go.weaken (l':=[(2,AV.nsl),(3,.bool false),(4,r8),(10,.bool t10)]) (y4 (by kernel_rfl) (y4 (by kernel_rfl) (y4 (by kernel_rfl) (y4 (by kernel_rfl) (ye _))))) (n6 ?_)))
 cases t10 with
 |true=>
  replace hF:=z55 hF
  refine WR.cond_true (by kernel_rfl) (by kernel_rfl) (WR.seqK (by kernel_rfl) (fun K10 n10 e10 q10 p10=>WR.region (by kernel_rfl) (WLR.val (d:=(some 2)) (v:=AV.nsl) (h':=h_7) (by kernel_rfl) (by kernel_rfl) (by kernel_rfl) (WLR.val (d:=(some 3)) (v:=.bool false) (h':=h_7) (by kernel_rfl) (by kernel_rfl) (by kernel_rfl) (WLR.nil (by kernel_rfl) (Go.weaken (l':=[(2,AV.nsl),(3,.bool false)]) (y4 (by kernel_rfl) (y4 (by kernel_rfl) (ye _))) (n10 (WR.ret (by kernel_rfl) (q5 (y2c hF (fun h_11 hF=>?_)))))))))));obtain⟨hF,hF2⟩:=z114 hF;subst hF;subst hF2;exact z2d2 (rs:=[.tmp 2,.tmp 3]) (vs:=[AV.nsl,.bool false]) (by kernel_rfl) (z27a (by kernel_rfl) (z27a (by kernel_rfl) zd)) (by kernel_rfl)
 |false=>
  replace hF:=z56 hF
  refine WR.cond_false (by kernel_rfl) (by kernel_rfl) (WR.skip (by kernel_rfl) (n5 (WR.seqK (by kernel_rfl) (fun K12 n12 e12 q12 p12=>WR.region (by kernel_rfl) ?_))))
  replace hF:=z9 hF;obtain⟨h_13,e14,hF⟩:=hF
  refine WLR.val (d:=(some 5)) (v:=(z1a h_7)) (h':=h_13) (by kernel_rfl) (by kernel_rfl) (z213 e14 (by kernel_rfl)) (WLR.nil (by kernel_rfl) (Go.weaken (l':=[(2,AV.nsl),(3,.bool false),(4,r8),(5,(z1a h_7))]) (y4 (by kernel_rfl) (y4 (by kernel_rfl) (y4 (by kernel_rfl) (y4 (by kernel_rfl) (ye _))))) (n12 (WR.seqK (by kernel_rfl) (fun K15 n15 e15 q15 p15=>WR.seqK (by kernel_rfl) (fun K16 n16 e16 q16 p16=>WR.region (by kernel_rfl) (WLR.val (d:=(some 11)) (v:=r8) (h':=h_13) (by kernel_rfl) (by kernel_rfl) (by kernel_rfl) (WLR.nil (by kernel_rfl) (Go.weaken (l':=[(2,AV.nsl),(3,.bool false),(5,(z1a h_7)),(11,r8)]) (y4 (by kernel_rfl) (y4 (by kernel_rfl) (y4 (by kernel_rfl) (y4 (by kernel_rfl) (ye _))))) (n16 (WR.blockK (by kernel_rfl) (fun K17 n17 s17 o17 q17 p17=>WR.rng hc hF (fun h_18 hF=>?_) (fun h_19 hF=>?_) (fun id h_20 hF=>?_)))))))))))))
  ·skip
   refine n17 (n15 (WR.seqK (by kernel_rfl) (fun K21 n21 e21 q21 p21=>WR.region (by kernel_rfl) ?_)))
   replace hF:=z3 hF;obtain⟨v17,e22,hF⟩:=hF
   refine WLR.val (d:=(some 17)) (v:=v17) (h':=h_18) (by kernel_rfl) (by kernel_rfl) (Eq.trans (by kernel_rfl) (z14 (P:=Try.prog) (h:=h_18) (t:=39) (by kernel_rfl) e22)) (WLR.val (d:=(some 2)) (v:=v17) (h':=h_18) (by kernel_rfl) (by kernel_rfl) (by kernel_rfl) (WLR.val (d:=(some 3)) (v:=.bool true) (h':=h_18) (by kernel_rfl) (by kernel_rfl) (by kernel_rfl) (WLR.nil (by kernel_rfl) (Go.weaken (l':=[(2,v17),(3,.bool true)]) (y4 (by kernel_rfl) (y4 (by kernel_rfl) (ye _))) (n21 (WR.ret (by kernel_rfl) (y2c hF (fun h_23 hF=>?_))))))));obtain⟨hF,hF2⟩:=z114 hF;subst hF;subst hF2;exact z2d2 (rs:=[.tmp 2,.tmp 3]) (vs:=[v17,.bool true]) (by kernel_rfl) (z27a (by kernel_rfl) (z27a (by kernel_rfl) zd)) (by kernel_rfl)
  ·skip
   cases hF
  ·skip
   cases hF
noncomputable def z11d(both:z31)(n:Nat):FnT:=fun args h=>match args with
 |[x0]=>z131 both n x0 h
 |_=>none
set_option maxRecDepth 100000 in
theorem z2b0(both:z31)(n:Nat)(t0:AV)(h:AHeap):z11d both n [t0] h=z131 both n t0 h:=
 rfl
theorem z2af{both:z31}(hc:BothAll Try.prog both)(n:Nat):z2b7 Try.prog 14 (z11d both n):=by
 intro args h r h2 e;unfold z11d at e
 split at e
 ·exact z379 hc (n:=n) e
 ·cases e
noncomputable def z97(call:z11)(_:Nat)(t0:AV)(h:AHeap):R:=callN (call 31 [t0,.int .i64 0] h) fun r12 h_3=>obind (z101 0 r12) fun v13=>obind (z2c v13) fun t13=>obind (z101 1 r12) fun v14=>obind (z16 .i64 v14) fun t14=>lett ((t14:Int) != 0) fun (t16:Bool)=>lett (fun (t20:Bool) (h_12:AHeap)=>ifB t20 (some (.ret (.tup [AV.nilp,.int .i64 t14]),h_12)) (lett (AHeap.new h_12 (.map [])) fun h_17=>obind (z392 Try.prog 89 [(0,t0),(2,(AV.mp (AHeap.next h_12)))]) fun t24=>outK (za8 h_17 89 (some (.agg t24))) fun v25 h_20=>callN (call 32 [v25,zc t13] h_20) fun r28 h_23=>obind (z16 .i64 r28) fun t28=>lett ((t28:Int) == (z65 t13)) fun (t32:Bool)=>ifB t32 (some (.ret (.tup [v25,.int .i64 0]),h_23)) (callN (call 33 [t0,.int .i64 0,.int .i64 t28] h_23) fun r36 h_32=>obind (z16 .i64 r36) fun t36=>lett ((t36:Int) != 0) fun (t38:Bool)=>ifB t38 (some (.ret (.tup [AV.nilp,.int .i64 t36]),h_32)) (callN (call 34 [t0,.int .i64 0] h_32) fun r41 h_40=>obind (z16 .i64 r41) fun t41=>lett ((t41:Int) != 0) fun (t43:Bool)=>ifB t43 (some (.ret (.tup [AV.nilp,.int .i64 t41]),h_40)) (some (.ret (.tup [v25,.int .i64 0]),h_40)))))) fun j20=>ifB t16 (lett ((t14:Int) != 4) fun (t19:Bool)=>j20 t19 h_3) (j20 false h_3)
set_option maxHeartbeats 4000000 in
set_option maxRecDepth 20000 in
theorem z2e9{call:z11}(hc:SaysAll Try.prog call){n:Nat}{t0:AV}{h:AHeap}{rR:ARes}{hR:AHeap}(hF:z97 call n t0 h=some (rR,hR)):Says Try.prog 9 [t0] h rR hR:=by
 unfold z97 at hF;refine sO Try.func9 fun w0 m0=>wW [(0,t0)] (oG fun n1=>W.r (oA 2 AV.nilp (oA 3 (.int .i64 0) (oV [(0,t0)] (n1 (oG fun n2=>W.r (oA 11 t0 (oC hc (some 12) hF fun r12 h_3 hF=>oA 10 r12 (oEs 13 hF fun t13 hF=>oEi 14 hF fun t14 hF=>oA 4 (zc t13) (oA 5 (.int .i64 t14) (oV [(0,t0),(4,zc t13),(5,.int .i64 t14)] (n2 (oH fun n9 q9=>W.s (fun K10 n10 e10 q10 p10=>W.r (oA 15 (.int .i64 t14) (oB 16 hF fun t16 hF=>oA 17 (.bool t16) ?_))))))))))))))));obtain⟨j20,e13,hF⟩:=z9 hF
 have J14:∀(t20:Bool) (h_12:AHeap),j20 t20 h_12=some (rR,hR)→WL Try.prog w0 m0 (Func.ntmps Try.f9) (Code.ops (y7 (y7 (y6 (y6 (z32 Try.f9)))))) 6 K10 [(0,t0),(4,zc t13),(5,.int .i64 t14),(20,.bool t20)] [] h_12:=by
  intro t20 h_12 hF;rw[e13] at hF;refine oV [(0,t0),(4,zc t13),(5,.int .i64 t14),(20,.bool t20)] (n10 ?_)
  cases t20 with
  |true=>
   exact oT hF fun hF=>oG fun n15=>W.r (oA 21 (.int .i64 t14) (oA 2 AV.nilp (oA 3 (.int .i64 t14) (oV [(2,AV.nilp),(3,.int .i64 t14)] (n15 (oY (q9 (lZ hF [.tmp 2,.tmp 3] [AV.nilp,.int .i64 t14] (rT (rT zd))))))))))
  |false=>
   refine oU hF fun hF=>oZ (n9 (oG fun n16=>W.r (oA 22 t0 ?_)));obtain⟨h_17,e18,hF⟩:=z9 hF;refine WL.val (d:=(some 23)) (v:=(AV.mp (AHeap.next h_12))) (h':=h_17) (by kernel_rfl) (by kernel_rfl) (z213 e18 (by kernel_rfl)) ?_;obtain⟨t24,e19,hF⟩:=z3 hF;refine WL.val (d:=(some 24)) (v:=.agg t24) (h':=h_17) (by kernel_rfl) (by kernel_rfl) (z262 (by kernel_rfl) e19) (oK 25 hF fun v25 h_20 hF=>oA 6 v25 (oV [(0,t0),(4,zc t13),(6,v25)] (n16 (oG fun n22=>W.r (oA 26 v25 (oA 27 (zc t13) (oCi hc 28 hF fun t28 h_23 hF=>oA 7 (.int .i64 t28) (oV [(0,t0),(4,zc t13),(6,v25),(7,.int .i64 t28)] (n22 (oH fun n26 q26=>oG fun n27=>W.r (oA 29 (.int .i64 t28) (oA 30 (zc t13) (oA 31 (.int .i64 (z65 t13)) (oB 32 hF fun t32 hF=>oV [(0,t0),(6,v25),(7,.int .i64 t28),(32,.bool t32)] (n27 ?_)))))))))))))))
   cases t32 with
   |true=>
    exact oT hF fun hF=>oG fun n29=>W.r (oA 33 v25 (oA 2 v25 (oA 3 (.int .i64 0) (oV [(2,v25),(3,.int .i64 0)] (n29 (oY (q26 (lZ hF [.tmp 2,.tmp 3] [v25,.int .i64 0] (rT (rT zd))))))))))
   |false=>
    refine oU hF fun hF=>oZ (n26 (oH fun n30 q30=>oG fun n31=>W.r (oA 34 t0 (oA 35 (.int .i64 t28) (oCi hc 36 hF fun t36 h_32 hF=>oA 8 (.int .i64 t36) (oV [(0,t0),(6,v25),(8,.int .i64 t36)] (n31 (oG fun n35=>W.r (oA 37 (.int .i64 t36) (oB 38 hF fun t38 hF=>oV [(0,t0),(6,v25),(8,.int .i64 t36),(38,.bool t38)] (n35 ?_)))))))))))
    cases t38 with
    |true=>
     exact oT hF fun hF=>oG fun n37=>W.r (oA 39 (.int .i64 t36) (oA 2 AV.nilp (oA 3 (.int .i64 t36) (oV [(2,AV.nilp),(3,.int .i64 t36)] (n37 (oY (q30 (lZ hF [.tmp 2,.tmp 3] [AV.nilp,.int .i64 t36] (rT (rT zd))))))))))
    |false=>
     refine oU hF fun hF=>oZ (n30 (oH fun n38 q38=>oG fun n39=>W.r (oA 40 t0 (oCi hc 41 hF fun t41 h_40 hF=>oA 9 (.int .i64 t41) (oV [(6,v25),(9,.int .i64 t41)] (n39 (oG fun n43=>W.r (oA 42 (.int .i64 t41) (oB 43 hF fun t43 hF=>oV [(6,v25),(9,.int .i64 t41),(43,.bool t43)] (n43 ?_))))))))))
     cases t43 with
     |true=>
      exact oT hF fun hF=>oG fun n45=>W.r (oA 44 (.int .i64 t41) (oA 2 AV.nilp (oA 3 (.int .i64 t41) (oV [(2,AV.nilp),(3,.int .i64 t41)] (n45 (oY (q38 (lZ hF [.tmp 2,.tmp 3] [AV.nilp,.int .i64 t41] (rT (rT zd))))))))))
     |false=>
      exact oU hF fun hF=>oZ (n38 (oG fun n46=>W.r (oA 45 v25 (oA 2 v25 (oA 3 (.int .i64 0) (oV [(2,v25),(3,.int .i64 0)] (n46 (oY (lZ hF [.tmp 2,.tmp 3] [v25,.int .i64 0] (rT (rT zd)))))))))))
 cases t16 with
 |true=>
  replace hF:=z55 hF
  exact oA 18 (.int .i64 t14) (oB 19 hF fun t19 hF=>oA 20 (.bool t19) (lW _ (J14 _ _ hF)))
 |false=>
  replace hF:=z56 hF
  exact WL.o (some 18) (WL.o (some 19) (oA 20 (.bool false) (lW _ (J14 _ _ hF))))
noncomputable def zfc(call:z11)(_:Nat)(h:AHeap):R:=callN (call 8 [] h) fun r6 h_3=>callN (call 9 [r6] h_3) fun r9 h_6=>obind (z101 0 r9) fun v10=>obind (z101 1 r9) fun v11=>obind (z16 .i64 v11) fun t11=>lett ((t11:Int) != 0) fun (t13:Bool)=>lett (fun (t17:Bool) (h_14:AHeap)=>lett (fun (t23:Bool) (h_17:AHeap)=>lett (fun (t28:Bool) (h_20:AHeap)=>ifB t28 (some (.ret (.bool false),h_20)) (callN (call 9 [r6] h_20) fun r31 h_25=>obind (z101 0 r31) fun v32=>obind (z101 1 r31) fun v33=>obind (z16 .i64 v33) fun t33=>lett ((t33:Int) != 0) fun (t35:Bool)=>lett (fun (t39:Bool) (h_33:AHeap)=>ifB t39 (some (.ret (.bool false),h_33)) (callN (call 14 [v32] h_33) fun r42 h_38=>obind (z101 0 r42) fun v43=>obind (z101 1 r42) fun v44=>obind (z33 v44) fun t44=>lett (fun (t51:Bool) (h_44:AHeap)=>some (.ret (.bool t51),h_44)) fun j51=>ifB t44 (callN (call 12 [.int .i64 1,.int .i64 2,.int .i64 1,.int .i64 1,zc ([97]:Bytes)] h_38) fun r48 h_47=>obind (z104 r48) fun t48=>outK (z183 Try.prog h_47 39 1 [(0,.agg t48)]) fun v49 h_50=>callN (call 15 [v43,v49] h_50) fun r50 h_52=>obind (z33 r50) fun t50=>j51 t50 h_52) (j51 false h_38))) fun j39=>ifB t35 (j39 true h_25) (outK (z6f Try.prog h_25 .eql 25 true (some v32) (some AV.nilp)) fun v38 h_55=>obind (z33 v38) fun t38=>j39 t38 h_55))) fun j28=>ifB t23 (j28 true h_17) (callN (call 13 [r6,AV.nsl,.int .i64 0] h_17) fun r26 h_58=>obind (z16 .i64 r26) fun t26=>lett ((t26:Int) != 0) fun (t27:Bool)=>j28 t27 h_58)) fun j23=>ifB t17 (j23 true h_14) (callN (call 12 [.int .i64 1,.int .i64 2,.int .i64 1,.int .i64 1,zc ([97]:Bytes)] h_14) fun r20 h_62=>obind (z104 r20) fun t20=>callN (call 11 [v10,.agg t20] h_62) fun r21 h_65=>obind (z16 .i64 r21) fun t21=>lett ((t21:Int) != 0) fun (t22:Bool)=>j23 t22 h_65)) fun j17=>ifB t13 (j17 true h_6) (outK (z6f Try.prog h_6 .eql 25 true (some v10) (some AV.nilp)) fun v16 h_69=>obind (z33 v16) fun t16=>j17 t16 h_69)
set_option maxHeartbeats 4000000 in
set_option maxRecDepth 20000 in
theorem z318{call:z11}(hc:SaysAll Try.prog call){n:Nat}{h:AHeap}{rR:ARes}{hR:AHeap}(hF:zfc call n h=some (rR,hR)):Says Try.prog 7 [] h rR hR:=by
 unfold zfc at hF;refine sO Try.func7 fun w0 m0=>wW [] (oG fun n1=>W.r (oA 0 (.bool false) (oV [] (n1 (oG fun n2=>W.r (oC hc (some 6) hF fun r6 h_3 hF=>oA 1 r6 (oV [(1,r6)] (n2 (oG fun n5=>W.r (oA 8 r6 (oC hc (some 9) hF fun r9 h_6 hF=>oA 7 r9 (oE 10 hF fun v10 hF=>oEi 11 hF fun t11 hF=>oA 2 v10 (oA 3 (.int .i64 t11) (oV [(1,r6),(2,v10),(3,.int .i64 t11)] (n5 (oH fun n11 q11=>W.s (fun K12 n12 e12 q12 p12=>W.r (oA 12 (.int .i64 t11) (oB 13 hF fun t13 hF=>oA 14 (.bool t13) ?_)))))))))))))))))));obtain⟨j17,e15,hF⟩:=z9 hF
 have J16:∀(t17:Bool) (h_14:AHeap),j17 t17 h_14=some (rR,hR)→WL Try.prog w0 m0 (Func.ntmps Try.f7) (Code.ops (y7 (y7 (y6 (y6 (y6 (z32 Try.f7))))))) 6 K12 [(1,r6),(2,v10),(17,.bool t17)] [] h_14:=by
  intro t17 h_14 hF;rw[e15] at hF;refine oA 18 (.bool t17) ?_;obtain⟨j23,e18,hF⟩:=z9 hF
  have J19:∀(t23:Bool) (h_17:AHeap),j23 t23 h_17=some (rR,hR)→WL Try.prog w0 m0 (Func.ntmps Try.f7) (Code.ops (y7 (y7 (y6 (y6 (y6 (z32 Try.f7))))))) 12 K12 [(1,r6),(23,.bool t23)] [] h_17:=by
   intro t23 h_17 hF;rw[e18] at hF;refine oA 24 (.bool t23) ?_;obtain⟨j28,e21,hF⟩:=z9 hF
   have J22:∀(t28:Bool) (h_20:AHeap),j28 t28 h_20=some (rR,hR)→WL Try.prog w0 m0 (Func.ntmps Try.f7) (Code.ops (y7 (y7 (y6 (y6 (y6 (z32 Try.f7))))))) 17 K12 [(1,r6),(28,.bool t28)] [] h_20:=by
    intro t28 h_20 hF;rw[e21] at hF;refine oV [(1,r6),(28,.bool t28)] (n12 ?_)
    cases t28 with
    |true=>
     exact oT hF fun hF=>oG fun n23=>W.r (oA 0 (.bool false) (oV [(0,.bool false)] (n23 (oY (q11 (lZ hF [.tmp 0] [.bool false] (rT zd)))))))
    |false=>
     refine oU hF fun hF=>oZ (n11 (oG fun n24=>W.r (oA 30 r6 (oC hc (some 31) hF fun r31 h_25 hF=>oA 29 r31 (oE 32 hF fun v32 hF=>oEi 33 hF fun t33 hF=>oA 2 v32 (oA 3 (.int .i64 t33) (oV [(2,v32),(3,.int .i64 t33)] (n24 (oH fun n30 q30=>W.s (fun K31 n31 e31 q31 p31=>W.r (oA 34 (.int .i64 t33) (oB 35 hF fun t35 hF=>oA 36 (.bool t35) ?_))))))))))));obtain⟨j39,e34,hF⟩:=z9 hF
     have J35:∀(t39:Bool) (h_33:AHeap),j39 t39 h_33=some (rR,hR)→WL Try.prog w0 m0 (Func.ntmps Try.f7) (Code.ops (y7 (y7 (y6 (y6 (y6 (y6 (y6 (z32 Try.f7))))))))) 6 K31 [(2,v32),(39,.bool t39)] [] h_33:=by
      intro t39 h_33 hF;rw[e34] at hF;refine oV [(2,v32),(39,.bool t39)] (n31 ?_)
      cases t39 with
      |true=>
       exact oT hF fun hF=>oG fun n36=>W.r (oA 0 (.bool false) (oV [(0,.bool false)] (n36 (oY (q30 (lZ hF [.tmp 0] [.bool false] (rT zd)))))))
      |false=>
       refine oU hF fun hF=>oZ (n30 (oG fun n37=>W.r (oA 41 v32 (oC hc (some 42) hF fun r42 h_38 hF=>oA 40 r42 (oE 43 hF fun v43 hF=>oEb 44 hF fun t44 hF=>oA 4 v43 (oA 5 (.bool t44) (oV [(4,v43),(5,.bool t44)] (n37 (W.s (fun K43 n43 e43 q43 p43=>W.r (oA 45 (.bool t44) (oA 46 (.bool t44) ?_))))))))))));obtain⟨j51,e45,hF⟩:=z9 hF
       have J46:∀(t51:Bool) (h_44:AHeap),j51 t51 h_44=some (rR,hR)→WL Try.prog w0 m0 (Func.ntmps Try.f7) (Code.ops (y7 (y6 (y6 (y6 (y6 (y6 (y6 (y6 (z32 Try.f7)))))))))) 7 K43 [(51,.bool t51)] [] h_44:=by
        intro t51 h_44 hF;rw[e45] at hF;exact oA 0 (.bool t51) (oV [(0,.bool t51)] (n43 (oY (lZ hF [.tmp 0] [.bool t51] (rT zd)))))
       cases t44 with
       |true=>
        replace hF:=z55 hF
        exact oA 47 v43 (oCa hc 48 hF fun t48 h_47 hF=>oK 49 hF fun v49 h_50 hF=>oCb hc 50 hF fun t50 h_52 hF=>oA 51 (.bool t50) (lW _ (J46 _ _ hF)))
       |false=>
        replace hF:=z56 hF
        exact WL.o (some 47) (WL.o (some 48) (WL.o (some 49) (WL.o (some 50) (oA 51 (.bool false) (lW _ (J46 _ _ hF))))))
     cases t35 with
     |true=>
      replace hF:=z55 hF
      exact WL.o (some 37) (WL.o (some 38) (oA 39 (.bool true) (lW _ (J35 _ _ hF))))
     |false=>
      replace hF:=z56 hF
      refine oA 37 v32 ?_
      replace hF:=z1e hF;obtain⟨v38,h_55,e56,hF⟩:=hF
      replace hF:=z3 hF;obtain⟨t38,c57,hF⟩:=hF
      have c57:=z20 c57;subst c57;exact WL.b (some 38) (.bool t38) h_55 e56 (oA 39 (.bool t38) (lW _ (J35 _ _ hF)))
   cases t23 with
   |true=>
    replace hF:=z55 hF
    exact WL.o (some 25) (WL.o (some 26) (WL.o (some 27) (oA 28 (.bool true) (lW _ (J22 _ _ hF)))))
   |false=>
    replace hF:=z56 hF
    exact oA 25 r6 (oCi hc 26 hF fun t26 h_58 hF=>oB 27 hF fun t27 hF=>oA 28 (.bool t27) (lW _ (J22 _ _ hF)))
  cases t17 with
  |true=>
   replace hF:=z55 hF
   exact WL.o (some 19) (WL.o (some 20) (WL.o (some 21) (WL.o (some 22) (oA 23 (.bool true) (lW _ (J19 _ _ hF))))))
  |false=>
   replace hF:=z56 hF
   exact oA 19 v10 (oCa hc 20 hF fun t20 h_62 hF=>oCi hc 21 hF fun t21 h_65 hF=>oB 22 hF fun t22 hF=>oA 23 (.bool t22) (lW _ (J19 _ _ hF)))
 cases t13 with
 |true=>
  replace hF:=z55 hF
  exact WL.o (some 15) (WL.o (some 16) (oA 17 (.bool true) (lW _ (J16 _ _ hF))))
 |false=>
  replace hF:=z56 hF
  refine oA 15 v10 ?_
  replace hF:=z1e hF;obtain⟨v16,h_69,e70,hF⟩:=hF
  replace hF:=z3 hF;obtain⟨t16,c71,hF⟩:=hF
  have c71:=z20 c71;subst c71;exact WL.b (some 16) (.bool t16) h_69 e70 (oA 17 (.bool t16) (lW _ (J16 _ _ hF)))
noncomputable def zd4(t0:AV)(t7:Int)(k7:AHeap→R)(self:Int→Int→AHeap→R)(t3:Int)(t8:Int)(h_13:AHeap):R:=
 lett (decide (t8<t7)) fun (t9:Bool)=>
 ifB t9
 (
  obind (z17a 9 t0 t8) fun t10=>
  obind (z28 h_13 9 t10) fun t11=>
  lett (newH h_13 53 [.int .i64 0,.int .i64 0,.int .i64 0,.int .i64 0,.int .i64 0,.int .i64 0,.str 0 0,.str 0 0,.int .i64 0]) fun h_22=>
  obind (z22 h_22 9 t11 (z1a h_13)) fun h_24=>
  obind (ze h_24 (AV.ptr (AHeap.next h_13) 7)) fun v14=>
  obind (z2c v14) fun t14=>
  obind (ze h_24 (AV.ptr (AHeap.next h_13) 6)) fun v18=>
  obind (z2c v18) fun t18=>
  lett (IntKind.i64.wrap ((z65 t14)+(z65 t18))) fun (t20:Int)=>
  lett (if 65536<t20 then 65536 else t20) fun (t21:Int)=>
  lett (IntKind.i64.wrap (t3+t21)) fun (t22:Int)=>
  lett (decide (t22>16384)) fun (t24:Bool)=>
  ifB t24
  (
   some (.ret (.bool true),h_24))
  (
   lett (IntKind.i64.wrap (t8+1)) fun (t25:Int)=>
   self t22 t25 h_24))
 (
  k7 h_13)
noncomputable def zf1(t0:AV)(t7:Int)(k7:AHeap→R):Nat→Int→Int→AHeap→R:=z143 (fun _ _ _=>none) (zd4 t0 t7 k7)
theorem z149(t0:AV)(t7:Int)(k7:AHeap→R)(m:Nat):zf1 t0 t7 k7 (m+1)=zd4 t0 t7 k7 (zf1 t0 t7 k7 m):=rfl
noncomputable def zfd(_:z11)(n:Nat)(t0:AV)(h:AHeap):R:=obind (z18e t0) fun t7=>lett (fun (h_8:AHeap)=>obind (z18e t0) fun t27=>lett (decide (t27>100)) fun (t28:Bool)=>some (.ret (.bool t28),h_8)) fun k7=>zf1 t0 t7 k7 n 0 0 h
set_option maxHeartbeats 4000000 in
set_option maxRecDepth 20000 in
theorem z319{call:z11}(_:SaysAll Try.prog call){n:Nat}{t0:AV}{h:AHeap}{rR:ARes}{hR:AHeap}(hF:zfd call n t0 h=some (rR,hR)):Says Try.prog 18 [t0] h rR hR:=by
 unfold zfd at hF;refine sO Try.func18 fun w0 m0=>wW [(0,t0)] (oG fun n1=>W.r (oA 2 (.bool false) (oV [(0,t0)] (n1 (oG fun n2=>W.r (oA 3 (.int .i64 0) (oV [(0,t0),(3,.int .i64 0)] (n2 (W.s (fun K3 n3 e3 q3 p3=>oG fun n4=>W.r (oA 6 t0 (oM 7 45 53 hF fun t7 hF=>oA 8 (.int .i64 0) (oV [(0,t0),(3,.int .i64 0),(6,t0),(7,.int .i64 t7),(8,.int .i64 0)] (n4 ?_))))))))))))));obtain⟨k7,e7,hF⟩:=z9 hF
 have J7:∀(h_8:AHeap),k7 h_8=some (rR,hR)→Go w0 m0 (Func.ntmps Try.f18) (K3 .normal) [(0,t0)] [] h_8:=by
  intro h_8 hF;rw[e7] at hF;exact n3 (oG fun n9=>W.r (oA 26 t0 (oM 27 45 53 hF fun t27 hF=>oB 28 hF fun t28 hF=>oA 2 (.bool t28) (oV [(2,.bool t28)] (n9 (oY (lZ hF [.tmp 2] [.bool t28] (rT zd))))))))
 refine W.blockK (by kernel_rfl) (fun K6 n6 s6 o6 q6 p6=>W.loopK (by kernel_rfl) (fun I12 K12 b12 n12 e12 q12 p12=>?_))
 have L12:∀(m:Nat) (t3:Int) (t8:Int) (h_13:AHeap),zf1 t0 t7 k7 m t3 t8 h_13=some (rR,hR)→Go w0 m0 (Func.ntmps Try.f18) I12 [(0,t0),(3,.int .i64 t3),(6,t0),(7,.int .i64 t7),(8,.int .i64 t8)] [] h_13:=by
  intro m
  induction m with
  |zero=>intro t3 t8 h_13 hF;cases hF
  |succ m ih12=>
   intro t3 t8 h_13 hF;rw[z149] at hF;unfold zd4 at hF;refine b12 (oG fun n14=>W.r (oB 9 hF fun t9 hF=>oV [(0,t0),(3,.int .i64 t3),(6,t0),(7,.int .i64 t7),(8,.int .i64 t8),(9,.bool t9)] (n14 (W.s (fun K16 n16 e16 q16 p16=>?_)))))
   cases t9 with
   |true=>
    refine oT hF fun hF=>oZ (n16 (oH fun n17 q17=>W.blockK (by kernel_rfl) (fun K18 n18 s18 o18 q18 p18=>oG fun n19=>W.r (oP 10 45 53 .i64 hF fun t10 hF=>oR 11 53 hF fun t11 hF=>oN 5 hF fun h_22 hF=>oW 53 (.agg t11) hF fun h_24 hF=>oV [(0,t0),(3,.int .i64 t3),(5,(z1a h_13)),(6,t0),(7,.int .i64 t7),(8,.int .i64 t8)] (n19 (oG fun n26=>W.r (oA 12 (.int .i64 t3) (oA 13 (AV.ptr (AHeap.next h_13) 7) (oLs 14 9 hF fun t14 hF=>oA 15 (.int .i64 (z65 t14)) (oA 16 (AV.ptr (AHeap.next h_13) 2) (oA 17 (AV.ptr (AHeap.next h_13) 6) (oLs 18 9 hF fun t18 hF=>oA 19 (.int .i64 (z65 t18)) (oI 20 .i64 hF fun t20 hF=>oI 21 .i64 hF fun t21 hF=>oI 22 .i64 hF fun t22 hF=>oA 3 (.int .i64 t22) (oV [(0,t0),(3,.int .i64 t22),(6,t0),(7,.int .i64 t7),(8,.int .i64 t8)] (n26 (oG fun n34=>W.r (oA 23 (.int .i64 t22) (oB 24 hF fun t24 hF=>oV [(0,t0),(3,.int .i64 t22),(6,t0),(7,.int .i64 t7),(8,.int .i64 t8),(24,.bool t24)] (n34 ?_)))))))))))))))))))
    cases t24 with
    |true=>
     exact oT hF fun hF=>oG fun n36=>W.r (oA 2 (.bool true) (oV [(2,.bool true)] (n36 (oY (q18 (q17 (q12 (q6 (q3 (lZ hF [.tmp 2] [.bool true] (rT zd)))))))))))
    |false=>
     exact oU hF fun hF=>oZ (n18 (n17 (W.r (oI 25 .i64 hF fun t25 hF=>oA 8 (.int .i64 t25) (oV [(0,t0),(3,.int .i64 t22),(6,t0),(7,.int .i64 t7),(8,.int .i64 t25)] (n12 (gW _ (ih12 _ _ _ hF))))))))
   |false=>
    exact oU hF fun hF=>W.exit (by kernel_rfl) (e16 (e12 (s6 (by kernel_rfl) (gW _ (J7 _ hF)))))
 exact gW _ (L12 _ _ _ _ hF)
noncomputable def z9e(t0:AV)(t1:AV)(t12:Int)(k12:AHeap→R)(self:Int→AHeap→R)(t13:Int)(h_16:AHeap):R:=lett (decide (t13<t12)) fun (t14:Bool)=>ifB t14 (obind (z17a 5 t0 t13) fun t18=>obind (z28 h_16 5 t18) fun t19=>obind (z17a 5 t1 t13) fun t22=>obind (z28 h_16 5 t22) fun t23=>obind (z102 Try.prog 35 (.agg t19) (.agg t23)) fun t24=>lett (!t24) fun (t24_29:Bool)=>ifB t24_29 (some (.ret (.bool false),h_16)) (lett (IntKind.i64.wrap (t13+1)) fun (t25:Int)=>self t25 h_16)) (k12 h_16)
noncomputable def zdd(t0:AV)(t1:AV)(t12:Int)(k12:AHeap→R):Nat→Int→AHeap→R:=z143 (fun _ _=>none) (z9e t0 t1 t12 k12)
theorem zd3(t0:AV)(t1:AV)(t12:Int)(k12:AHeap→R)(m:Nat):zdd t0 t1 t12 k12 (m+1)=z9e t0 t1 t12 k12 (zdd t0 t1 t12 k12 m):=rfl
noncomputable def zde(_:z11)(n:Nat)(t0:AV)(t1:AV)(h:AHeap):R:=obind (z18e t0) fun t7=>obind (z18e t1) fun t9=>lett ((t7:Int) != t9) fun (t10:Bool)=>ifB t10 (some (.ret (.bool false),h)) (obind (z18e t0) fun t12=>lett (fun (h_13:AHeap)=>some (.ret (.bool true),h_13)) fun k12=>zdd t0 t1 t12 k12 n 0 h)
set_option maxHeartbeats 4000000 in
set_option maxRecDepth 20000 in
theorem z378{call:z11}(hc:SaysAll Try.prog call){n:Nat}{t0:AV}{t1:AV}{h:AHeap}{rR:ARes}{hR:AHeap}(hF:zde call n t0 t1 h=some (rR,hR)):Says Try.prog 15 [t0,t1] h rR hR:=by
 unfold zde at hF;refine sO Try.func15 fun w0 m0=>wW [(0,t0),(1,t1)] (oG fun n1=>W.r (oA 4 (.bool false) (oV [(0,t0),(1,t1)] (n1 (oH fun n2 q2=>oG fun n3=>W.r (oA 6 t0 (oM 7 39 35 hF fun t7 hF=>oA 8 t1 (oM 9 39 35 hF fun t9 hF=>oB 10 hF fun t10 hF=>oV [(0,t0),(1,t1),(10,.bool t10)] (n3 ?_)))))))))
 cases t10 with
 |true=>
  exact oT hF fun hF=>oG fun n7=>W.r (oA 4 (.bool false) (oV [(4,.bool false)] (n7 (oY (q2 (lZ hF [.tmp 4] [.bool false] (rT zd)))))))
 |false=>
  refine oU hF fun hF=>oZ (n2 (W.s (fun K8 n8 e8 q8 p8=>oG fun n9=>W.r (oA 11 t0 (oM 12 39 35 hF fun t12 hF=>oA 13 (.int .i64 0) (oV [(0,t0),(1,t1),(12,.int .i64 t12),(13,.int .i64 0)] (n9 ?_)))))));obtain⟨k12,e12,hF⟩:=z9 hF
  have J12:∀(h_13:AHeap),k12 h_13=some (rR,hR)→Go w0 m0 (Func.ntmps Try.f15) (K8 .normal) [] [] h_13:=by
   intro h_13 hF;rw[e12] at hF;exact n8 (oG fun n14=>W.r (oA 4 (.bool true) (oV [(4,.bool true)] (n14 (oY (lZ hF [.tmp 4] [.bool true] (rT zd)))))))
  refine W.blockK (by kernel_rfl) (fun K11 n11 s11 o11 q11 p11=>W.loopK (by kernel_rfl) (fun I15 K15 b15 n15 e15 q15 p15=>?_))
  have L15:∀(m:Nat) (t13:Int) (h_16:AHeap),zdd t0 t1 t12 k12 m t13 h_16=some (rR,hR)→Go w0 m0 (Func.ntmps Try.f15) I15 [(0,t0),(1,t1),(12,.int .i64 t12),(13,.int .i64 t13)] [] h_16:=by
   intro m
   induction m with
   |zero=>intro t13 h_16 hF;cases hF
   |succ m ih15=>
    intro t13 h_16 hF;rw[zd3] at hF;unfold z9e at hF;refine b15 (oG fun n17=>W.r (oB 14 hF fun t14 hF=>oV [(0,t0),(1,t1),(12,.int .i64 t12),(13,.int .i64 t13),(14,.bool t14)] (n17 (W.s (fun K19 n19 e19 q19 p19=>?_)))))
    cases t14 with
    |true=>
     refine oT hF fun hF=>oZ (n19 (oH fun n20 q20=>W.blockK (by kernel_rfl) (fun K21 n21 s21 o21 q21 p21=>oG fun n22=>W.r (oA 15 (.int .i64 t13) (oA 5 (.int .i64 t13) (oV [(0,t0),(1,t1),(5,.int .i64 t13),(12,.int .i64 t12),(13,.int .i64 t13)] (n22 (oG fun n23=>y14 (by kernel_rfl) (hc.ok w0) (plan:=[0,1,2,3,4,5,6,7,8]) (by kernel_rfl) (by kernel_rfl) (by kernel_rfl) (WD.a 0 (some 16) t0 h_16 (WD.a 0 (some 17) (.int .i64 t13) h_16 ?_))))))))));obtain⟨t18,e24,hF⟩:=z3 hF;refine WD.b 0 (some 18) t18 h_16 (z179 (P:=Try.prog) (h:=h_16) (t:=39) (e':=35) (k:=.i64) (by kernel_rfl) (by kernel_rfl) (by kernel_rfl) e24) ?_;obtain⟨t19,e25,hF⟩:=z3 hF;refine WD.b 1 (some 19) (.agg t19) h_16 (z35 (P:=Try.prog) (h:=h_16) (t:=35) (by kernel_rfl) (by kernel_rfl) e25) (WD.a 0 (some 20) t1 h_16 (WD.a 0 (some 21) (.int .i64 t13) h_16 ?_));obtain⟨t22,e26,hF⟩:=z3 hF;refine WD.b 0 (some 22) t22 h_16 (z179 (P:=Try.prog) (h:=h_16) (t:=39) (e':=35) (k:=.i64) (by kernel_rfl) (by kernel_rfl) (by kernel_rfl) e26) ?_;obtain⟨t23,e27,hF⟩:=z3 hF;refine WD.b 1 (some 23) (.agg t23) h_16 (z35 (P:=Try.prog) (h:=h_16) (t:=35) (by kernel_rfl) (by kernel_rfl) e27) ?_;obtain⟨t24,e28,hF⟩:=z3 hF;obtain⟨t24_29,e30,hF⟩:=z9 hF;refine WD.val (d:=(some 24)) (v:=.bool t24_29) (h':=h_16) (by kernel_rfl) (by kernel_rfl) (z2a AV.bool e30 (Eq.trans (by kernel_rfl) (z3cc (P:=Try.prog) (h:=h_16) (t:=35) (lit:=false) (by kernel_rfl) e28))) (k:=0) (by kernel_rfl) (fun e=>absurd e (by decide)) (by decide) (WD.nil (gW [(0,t0),(1,t1),(12,.int .i64 t12),(13,.int .i64 t13),(24,.bool t24_29)] (n23 ?_)))
     cases t24_29 with
     |true=>
      exact oT hF fun hF=>oG fun n31=>W.r (oA 4 (.bool false) (oV [(4,.bool false)] (n31 (oY (q21 (q20 (q15 (q11 (q8 (lZ hF [.tmp 4] [.bool false] (rT zd)))))))))))
     |false=>
      exact oU hF fun hF=>oZ (n21 (n20 (W.r (oI 25 .i64 hF fun t25 hF=>oA 13 (.int .i64 t25) (oV [(0,t0),(1,t1),(12,.int .i64 t12),(13,.int .i64 t25)] (n15 (gW _ (ih15 _ _ hF))))))))
    |false=>
     exact oU hF fun hF=>W.exit (by kernel_rfl) (e19 (e15 (s11 (by kernel_rfl) (gW _ (J12 _ hF)))))
  exact gW _ (L15 _ _ _ hF)
noncomputable def z171(_:z11)(_:Nat)(t0:Int)(t1:Int)(t2:Int)(t3:Int)(t4:Bytes)(h:AHeap):R:=lett (newH h 35 [.int .i64 0,.int .i64 0,.int .i64 0,.int .i64 0,.str 0 0]) fun h_2=>obind (z392 Try.prog 35 [(0,.int .i64 t0),(1,.agg ([.int .i64 t1,.int .i64 t2]:List AV)),(2,.int .i64 t3),(3,zc t4)]) fun t17=>obind (z22 h_2 5 t17 (z1a h)) fun h_6=>obind (z28 h_6 5 (z1a h)) fun w10=>some (.ret (.agg w10),h_6)
set_option maxHeartbeats 4000000 in
set_option maxRecDepth 20000 in
theorem z3d4{call:z11}(_:SaysAll Try.prog call){n:Nat}{t0:Int}{t1:Int}{t2:Int}{t3:Int}{t4:Bytes}{h:AHeap}{rR:ARes}{hR:AHeap}(hF:z171 call n t0 t1 t2 t3 t4 h=some (rR,hR)):Says Try.prog 12 [.int .i64 t0,.int .i64 t1,.int .i64 t2,.int .i64 t3,zc t4] h rR hR:=by
 unfold z171 at hF;refine sO Try.func12 fun w0 m0=>wW [(0,.int .i64 t0),(1,.int .i64 t1),(2,.int .i64 t2),(3,.int .i64 t3),(4,zc t4)] (oG fun n1=>W.r (oN 10 hF fun h_2 hF=>oV [(0,.int .i64 t0),(1,.int .i64 t1),(2,.int .i64 t2),(3,.int .i64 t3),(4,zc t4),(10,(z1a h))] (n1 (oG fun n4=>W.r (oA 11 (.int .i64 t0) (oA 12 (.int .i64 t1) (oA 13 (.int .i64 t2) (oA 14 (.agg ([.int .i64 t1,.int .i64 t2]:List AV)) (oA 15 (.int .i64 t3) (oA 16 (zc t4) ?_))))))))));obtain⟨t17,e5,hF⟩:=z3 hF;refine WL.val (d:=(some 17)) (v:=.agg t17) (h':=h_2) (by kernel_rfl) (by kernel_rfl) (z262 (by kernel_rfl) e5) (oW 35 (.agg t17) hF fun h_6 hF=>oV [(10,(z1a h))] (n4 (oY ?_)));obtain⟨w10,e8,hF⟩:=z3 hF;exact lZ hF [.cell 10 35] [.agg w10] (rY e8 zd)
noncomputable def z14a(h_10:AHeap)(h_21:AHeap)(v18:AV)(t19:Int)(k33:Int→AHeap→R)(self:Int→Int→AHeap→R)(t5_50:Int)(t20:Int)(h_51:AHeap):R:=lett (decide (t20<t19)) fun (t21:Bool)=>ifB t21 (obind (z17a 5 v18 t20) fun t22=>obind (z28 h_51 5 t22) fun t23=>lett (newH h_51 35 [.int .i64 0,.int .i64 0,.int .i64 0,.int .i64 0,.str 0 0]) fun h_60=>obind (z22 h_60 5 t23 (z1a h_51)) fun h_62=>obind (ze h_62 (AV.ptr (AHeap.next h_51) 0)) fun v25=>obind (z16 .i64 v25) fun t25=>obind (ze h_62 (AV.ptr (AHeap.next h_10) 0)) fun v27=>obind (z16 .i64 v27) fun t27=>lett ((t25:Int) == t27) fun (t28:Bool)=>lett (fun (t5_71:Int) (h_72:AHeap)=>lett (IntKind.i64.wrap (t20+1)) fun (t34:Int)=>self t5_71 t34 h_72) fun k70=>ifB t28 (obind (ze h_62 (AV.ptr (AHeap.next h_51) 3)) fun v30=>obind (z16 .i64 v30) fun t30=>lett (IntKind.i64.wrap (t30+1)) fun (t31:Int)=>obind (z28 h_62 2 (AV.ptr (AHeap.next h_51) 1)) fun t33=>obind (z22 h_62 2 t33 (z1a h_21)) fun h_78=>k70 t31 h_78) (k70 t5_50 h_62)) (k33 t5_50 h_51)
noncomputable def z11e(h_10:AHeap)(h_21:AHeap)(v18:AV)(t19:Int)(k33:Int→AHeap→R):Nat→Int→Int→AHeap→R:=z143 (fun _ _ _=>none) (z14a h_10 h_21 v18 t19 k33)
theorem z285(h_10:AHeap)(h_21:AHeap)(v18:AV)(t19:Int)(k33:Int→AHeap→R)(m:Nat):z11e h_10 h_21 v18 t19 k33 (m+1)=z14a h_10 h_21 v18 t19 k33 (z11e h_10 h_21 v18 t19 k33 m):=rfl
noncomputable def z14b(call:z11)(n:Nat)(t0:AV)(t10:Int)(k6:AHeap→R)(self:Int→AHeap→R)(t11:Int)(h_10:AHeap):R:=lett (decide (t11<t10)) fun (t12:Bool)=>ifB t12 (obind (z17a 5 t0 t11) fun t14=>obind (z28 h_10 5 t14) fun t15=>lett (newH h_10 35 [.int .i64 0,.int .i64 0,.int .i64 0,.int .i64 0,.str 0 0]) fun h_19=>obind (z22 h_19 5 t15 (z1a h_10)) fun h_21=>lett (newH h_21 30 [.int .i64 0,.int .i64 0]) fun h_25=>outK (z113 Try.prog h_25 39 t0 none (some (.int .i64 t11))) fun v18 h_29=>obind (z18e v18) fun t19=>lett (fun (t5:Int) (h_34:AHeap)=>obind (ze h_34 (AV.ptr (AHeap.next h_10) 3)) fun v36=>obind (z16 .i64 v36) fun t36=>lett ((t36:Int) != t5) fun (t38:Bool)=>lett (fun (t44:Bool) (h_39:AHeap)=>ifB t44 (some (.ret (.bool false),h_39)) (lett (IntKind.i64.wrap (t11+1)) fun (t45:Int)=>self t45 h_39)) fun j44=>ifB t38 (j44 true h_34) (obind (z28 h_34 2 (z1a h_21)) fun t40=>obind (z28 h_34 2 (AV.ptr (AHeap.next h_10) 1)) fun t42=>callN (call 53 [.agg t40,.agg t42] h_34) fun r43 h_46=>obind (z33 r43) fun t43=>j44 t43 h_46)) fun k33=>z11e h_10 h_21 v18 t19 k33 n 1 0 h_29) (k6 h_10)
noncomputable def z11f(call:z11)(n:Nat)(t0:AV)(t10:Int)(k6:AHeap→R):Nat→Int→AHeap→R:=z143 (fun _ _=>none) (z14b call n t0 t10 k6)
theorem z286(call:z11)(n:Nat)(t0:AV)(t10:Int)(k6:AHeap→R)(m:Nat):z11f call n t0 t10 k6 (m+1)=z14b call n t0 t10 k6 (z11f call n t0 t10 k6 m):=rfl
noncomputable def z1d2(call:z11)(n:Nat)(t0:AV)(h:AHeap):R:=obind (z18e t0) fun t10=>lett (fun (h_7:AHeap)=>some (.ret (.bool true),h_7)) fun k6=>z11f call n t0 t10 k6 n 0 h
set_option maxHeartbeats 4000000 in
set_option maxRecDepth 20000 in
theorem z2e7{call:z11}(hc:SaysAll Try.prog call){n:Nat}{t0:AV}{h:AHeap}{rR:ARes}{hR:AHeap}(hF:z1d2 call n t0 h=some (rR,hR)):Says Try.prog 30 [t0] h rR hR:=by
 unfold z1d2 at hF;refine sO Try.func30 fun w0 m0=>wW [(0,t0)] (oG fun n1=>W.r (oA 2 (.bool false) (oV [(0,t0)] (n1 (W.s (fun K2 n2 e2 q2 p2=>oG fun n3=>W.r (oA 9 t0 (oM 10 39 35 hF fun t10 hF=>oA 11 (.int .i64 0) (oV [(0,t0),(9,t0),(10,.int .i64 t10),(11,.int .i64 0)] (n3 ?_))))))))));obtain⟨k6,e6,hF⟩:=z9 hF
 have J6:∀(h_7:AHeap),k6 h_7=some (rR,hR)→Go w0 m0 (Func.ntmps Try.f30) (K2 .normal) [] [] h_7:=by
  intro h_7 hF;rw[e6] at hF;exact n2 (oG fun n8=>W.r (oA 2 (.bool true) (oV [(2,.bool true)] (n8 (oY (lZ hF [.tmp 2] [.bool true] (rT zd)))))))
 refine W.blockK (by kernel_rfl) (fun K5 n5 s5 o5 q5 p5=>W.loopK (by kernel_rfl) (fun I9 K9 b9 n9 e9 q9 p9=>?_))
 have L9:∀(m:Nat) (t11:Int) (h_10:AHeap),z11f call n t0 t10 k6 m t11 h_10=some (rR,hR)→Go w0 m0 (Func.ntmps Try.f30) I9 [(0,t0),(9,t0),(10,.int .i64 t10),(11,.int .i64 t11)] [] h_10:=by
  intro m
  induction m with
  |zero=>intro t11 h_10 hF;cases hF
  |succ m ih9=>
   intro t11 h_10 hF;rw[z286] at hF;unfold z14b at hF;refine b9 (oG fun n11=>W.r (oB 12 hF fun t12 hF=>oV [(0,t0),(9,t0),(10,.int .i64 t10),(11,.int .i64 t11),(12,.bool t12)] (n11 (W.s (fun K13 n13 e13 q13 p13=>?_)))))
   cases t12 with
   |true=>
    refine oT hF fun hF=>oZ (n13 (oH fun n14 q14=>W.blockK (by kernel_rfl) (fun K15 n15 s15 o15 q15 p15=>oG fun n16=>W.r (oA 13 (.int .i64 t11) (oP 14 39 35 .i64 hF fun t14 hF=>oR 15 35 hF fun t15 hF=>oN 4 hF fun h_19 hF=>oA 3 (.int .i64 t11) (oW 35 (.agg t15) hF fun h_21 hF=>oV [(0,t0),(3,.int .i64 t11),(4,(z1a h_10)),(9,t0),(10,.int .i64 t10),(11,.int .i64 t11)] (n16 (oG fun n23=>W.r (oA 5 (.int .i64 1) (oV [(0,t0),(3,.int .i64 t11),(4,(z1a h_10)),(5,.int .i64 1),(9,t0),(10,.int .i64 t10),(11,.int .i64 t11)] (n23 (oG fun n24=>W.r (oN 6 hF fun h_25 hF=>oV [(0,t0),(3,.int .i64 t11),(4,(z1a h_10)),(5,.int .i64 1),(6,(z1a h_21)),(9,t0),(10,.int .i64 t10),(11,.int .i64 t11)] (n24 (W.s (fun K27 n27 e27 q27 p27=>oG fun n28=>W.r (oA 16 t0 (oA 17 (.int .i64 t11) (oK 18 hF fun v18 h_29 hF=>oM 19 39 35 hF fun t19 hF=>oA 20 (.int .i64 0) (oV [(0,t0),(4,(z1a h_10)),(5,.int .i64 1),(6,(z1a h_21)),(9,t0),(10,.int .i64 t10),(11,.int .i64 t11),(18,v18),(19,.int .i64 t19),(20,.int .i64 0)] (n28 ?_)))))))))))))))))))));obtain⟨k33,e33,hF⟩:=z9 hF
    have J33:∀(t5:Int) (h_34:AHeap),k33 t5 h_34=some (rR,hR)→Go w0 m0 (Func.ntmps Try.f30) (K27 .normal) [(0,t0),(4,(z1a h_10)),(5,.int .i64 t5),(6,(z1a h_21)),(9,t0),(10,.int .i64 t10),(11,.int .i64 t11)] [] h_34:=by
     intro t5 h_34 hF;rw[e33] at hF;refine n27 (W.s (fun K35 n35 e35 q35 p35=>W.r (oA 35 (AV.ptr (AHeap.next h_10) 3) (oLi 36 3 hF fun t36 hF=>oA 37 (.int .i64 t5) (oB 38 hF fun t38 hF=>oA 39 (.bool t38) ?_)))));obtain⟨j44,e40,hF⟩:=z9 hF
     have J41:∀(t44:Bool) (h_39:AHeap),j44 t44 h_39=some (rR,hR)→WL Try.prog w0 m0 (Func.ntmps Try.f30) (Code.ops (y7 (y6 (y6 (y6 (y6 (y7 (y7 (y6 (y6 (y7 (y7 (y6 (y7 (y6 (z32 Try.f30)))))))))))))))) 10 K35 [(0,t0),(9,t0),(10,.int .i64 t10),(11,.int .i64 t11),(44,.bool t44)] [] h_39:=by
      intro t44 h_39 hF;rw[e40] at hF;refine oV [(0,t0),(9,t0),(10,.int .i64 t10),(11,.int .i64 t11),(44,.bool t44)] (n35 ?_)
      cases t44 with
      |true=>
       exact oT hF fun hF=>oG fun n42=>W.r (oA 2 (.bool false) (oV [(2,.bool false)] (n42 (oY (q15 (q14 (q9 (q5 (q2 (lZ hF [.tmp 2] [.bool false] (rT zd)))))))))))
      |false=>
       exact oU hF fun hF=>oZ (n15 (n14 (W.r (oI 45 .i64 hF fun t45 hF=>oA 11 (.int .i64 t45) (oV [(0,t0),(9,t0),(10,.int .i64 t10),(11,.int .i64 t45)] (n9 (gW _ (ih9 _ _ hF))))))))
     cases t38 with
     |true=>
      replace hF:=z55 hF
      exact WL.o (some 40) (WL.o (some 41) (WL.o (some 42) (WL.o (some 43) (oA 44 (.bool true) (lW _ (J41 _ _ hF))))))
     |false=>
      replace hF:=z56 hF
      exact oR 40 30 hF fun t40 hF=>oA 41 (AV.ptr (AHeap.next h_10) 1) (oR 42 30 hF fun t42 hF=>oCb hc 43 hF fun t43 h_46 hF=>oA 44 (.bool t43) (lW _ (J41 _ _ hF)))
    refine W.blockK (by kernel_rfl) (fun K32 n32 s32 o32 q32 p32=>W.loopK (by kernel_rfl) (fun I49 K49 b49 n49 e49 q49 p49=>?_))
    have L49:∀(m:Nat) (t5_50:Int) (t20:Int) (h_51:AHeap),z11e h_10 h_21 v18 t19 k33 m t5_50 t20 h_51=some (rR,hR)→Go w0 m0 (Func.ntmps Try.f30) I49 [(0,t0),(4,(z1a h_10)),(5,.int .i64 t5_50),(6,(z1a h_21)),(9,t0),(10,.int .i64 t10),(11,.int .i64 t11),(18,v18),(19,.int .i64 t19),(20,.int .i64 t20)] [] h_51:=by
     intro m
     induction m with
     |zero=>intro t5_50 t20 h_51 hF;cases hF
     |succ m ih49=>
      intro t5_50 t20 h_51 hF;rw[z285] at hF;unfold z14a at hF;refine b49 (oG fun n52=>W.r (oB 21 hF fun t21 hF=>oV [(0,t0),(4,(z1a h_10)),(5,.int .i64 t5_50),(6,(z1a h_21)),(9,t0),(10,.int .i64 t10),(11,.int .i64 t11),(18,v18),(19,.int .i64 t19),(20,.int .i64 t20),(21,.bool t21)] (n52 (W.s (fun K54 n54 e54 q54 p54=>?_)))))
      cases t21 with
      |true=>
       refine oT hF fun hF=>oZ (n54 (oG fun n55=>W.blockK (by kernel_rfl) (fun K56 n56 s56 o56 q56 p56=>oG fun n57=>W.r (oP 22 39 35 .i64 hF fun t22 hF=>oR 23 35 hF fun t23 hF=>oN 8 hF fun h_60 hF=>oW 35 (.agg t23) hF fun h_62 hF=>oV [(0,t0),(4,(z1a h_10)),(5,.int .i64 t5_50),(6,(z1a h_21)),(8,(z1a h_51)),(9,t0),(10,.int .i64 t10),(11,.int .i64 t11),(18,v18),(19,.int .i64 t19),(20,.int .i64 t20)] (n57 (oG fun n64=>W.r (oA 24 (AV.ptr (AHeap.next h_51) 0) (oLi 25 3 hF fun t25 hF=>oA 26 (AV.ptr (AHeap.next h_10) 0) (oLi 27 3 hF fun t27 hF=>oB 28 hF fun t28 hF=>oV [(0,t0),(4,(z1a h_10)),(5,.int .i64 t5_50),(6,(z1a h_21)),(8,(z1a h_51)),(9,t0),(10,.int .i64 t10),(11,.int .i64 t11),(18,v18),(19,.int .i64 t19),(20,.int .i64 t20),(28,.bool t28)] (n64 ?_))))))))));obtain⟨k70,e70,hF⟩:=z9 hF
       have J70:∀(t5_71:Int) (h_72:AHeap),k70 t5_71 h_72=some (rR,hR)→Go w0 m0 (Func.ntmps Try.f30) (K56 .normal) [(0,t0),(4,(z1a h_10)),(5,.int .i64 t5_71),(6,(z1a h_21)),(9,t0),(10,.int .i64 t10),(11,.int .i64 t11),(18,v18),(19,.int .i64 t19),(20,.int .i64 t20)] [] h_72:=by
        intro t5_71 h_72 hF;rw[e70] at hF;exact n56 (n55 (W.r (oI 34 .i64 hF fun t34 hF=>oA 20 (.int .i64 t34) (oV [(0,t0),(4,(z1a h_10)),(5,.int .i64 t5_71),(6,(z1a h_21)),(9,t0),(10,.int .i64 t10),(11,.int .i64 t11),(18,v18),(19,.int .i64 t19),(20,.int .i64 t34)] (n49 (gW _ (ih49 _ _ _ hF)))))))
       cases t28 with
       |true=>
        refine oT hF fun hF=>y14 (by kernel_rfl) (hc.ok w0) (plan:=[0,1,2,3,4,5,6]) (by kernel_rfl) (by kernel_rfl) (by kernel_rfl) (WD.a 0 (some 29) (AV.ptr (AHeap.next h_51) 3) h_62 ?_)
        replace hF:=z3 hF;obtain⟨v30,e74,hF⟩:=hF
        replace hF:=z3 hF;obtain⟨t30,c75,hF⟩:=hF
        have c75:=z19 c75;subst c75;refine WD.b 1 (some 30) (.int .i64 t30) h_62 (z14 (P:=Try.prog) (h:=h_62) (t:=3) (by kernel_rfl) e74) ?_;obtain⟨t31,e76,hF⟩:=z9 hF;refine WD.val (d:=(some 31)) (v:=.int .i64 t31) (h':=h_62) (by kernel_rfl) (by kernel_rfl) (z2a (AV.int .i64) e76 (by kernel_rfl)) (k:=0) (by kernel_rfl) (fun e=>absurd e (by decide)) (by decide) (WD.a 0 (some 32) (AV.ptr (AHeap.next h_51) 1) h_62 ?_);obtain⟨t33,e77,hF⟩:=z3 hF;refine WD.b 1 (some 33) (.agg t33) h_62 (z35 (P:=Try.prog) (h:=h_62) (t:=30) (by kernel_rfl) (by kernel_rfl) e77) (WD.a 0 (some 5) (.int .i64 t31) h_62 ?_);obtain⟨h_78,e79,hF⟩:=z3 hF;exact WD.eff (h':=h_78) (by kernel_rfl) (by kernel_rfl) (Eq.trans (by kernel_rfl) (z3b (P:=Try.prog) (h:=h_62) (t:=30) (v:=(.agg t33)) (by kernel_rfl) (by kernel_rfl) e79)) (k:=2) (by kernel_rfl) (fun _=>(by kernel_rfl)) (by decide) (WD.nil (gW [(0,t0),(4,(z1a h_10)),(5,.int .i64 t31),(6,(z1a h_21)),(9,t0),(10,.int .i64 t10),(11,.int .i64 t11),(18,v18),(19,.int .i64 t19),(20,.int .i64 t20)] (gW _ (J70 _ _ hF))))
       |false=>
        exact oU hF fun hF=>oZ (gW _ (J70 _ _ hF))
      |false=>
       exact oU hF fun hF=>W.exit (by kernel_rfl) (e54 (e49 (s32 (by kernel_rfl) (gW _ (J33 _ _ hF)))))
    exact gW _ (L49 _ _ _ _ hF)
   |false=>
    exact oU hF fun hF=>W.exit (by kernel_rfl) (e13 (e9 (s5 (by kernel_rfl) (gW _ (J6 _ hF)))))
 exact gW _ (L9 _ _ _ hF)
noncomputable def wLS(n:Nat):List LSite:=[z8 n,z17 n]
theorem wLS_ok(n:Nat):∀s∈wLS n,s.ok Try.prog:=by
 intro s hs;unfold wLS at hs
 rcases List.mem_cons.1 hs with rfl|hs
 ·exact z182 n
 rcases List.mem_cons.1 hs with rfl|hs
 ·exact z2b1 n
 cases hs
theorem z163(n:Nat)(st:LoopState)(j:AJump)(t:T AV)(D:Nat):z24d (wLS n) ⟨st,j,t,(z8 n).N,y1c (z8 n).c,y21 (z8 n).c,y1d (z8 n).c,D⟩=some (z8 n):=z3cf rfl rfl rfl
theorem z272(n:Nat)(st:LoopState)(j:AJump)(t:T AV)(D:Nat):z24d (wLS n) ⟨st,j,t,(z17 n).N,y1c (z17 n).c,y21 (z17 n).c,y1d (z17 n).c,D⟩=some (z17 n):=(z495 (by kernel_rfl)).trans (z3cf rfl rfl rfl)
noncomputable def wLT(n:Nat)(both:z31):List (FuncId×FnT):=[(73,zf4 both n),(62,z52 both n),(32,z58 both n),(14,z11d both n),(9,fn1 Dv (z97 (both false) n)),(7,fn0 (zfc (both false) n)),(18,fn1 Dv (zfd (both false) n)),(15,fn2 Dv Dv (zde (both false) n)),(12,fn5 (Di .i64) (Di .i64) (Di .i64) (Di .i64) Ds (z171 (both false) n)),(30,fn1 Dv (z1d2 (both false) n))]
theorem wLT_ok(n:Nat)(both:z31)(hc:BothAll Try.prog both):SaysAll Try.prog (z19f (wLT n both)):=zf (z28a hc n) (zf (z175 hc n) (zf (z180 hc n) (zf (z2af hc n) (zf (z1f Dv (z2e9 hc.says)) (zf (z2ee (z318 hc.says)) (zf (z1f Dv (z319 hc.says)) (zf (z2e Dv Dv (z378 hc.says)) (zf (fn5_holds (Di .i64) (Di .i64) (Di .i64) (Di .i64) Ds (z3d4 hc.says)) (zf (z1f Dv (z2e7 hc.says)) (z34f))))))))))
noncomputable def wL(n D d:Nat):z31:=z323 (wLS n) (wLT n) (world n D) d
theorem wL_ok(n D d:Nat):BothAll Try.prog (wL n D d):=worldL_ok (wLS_ok n) (wLT_ok n) (world_ok n D) d
theorem wL_r(n D d b:Nat)(args:List AV)(h:AHeap):wL n D (d+1) true b args h=z32a (wLS n) (wL n D d) b args h:=rfl
theorem z22a(f:FuncId){n D d:Nat}{args:List AV}{h:AHeap}(hf:([73,62,32,14,9,7,18,15,12,30].all fun i=> !Nat.beq i f)=true:=by kernel_rfl):wL n D (d+1) false f args h=world n D f args h:=z3ff (z2fd _ _ _ hf)
theorem z313(n D d:Nat)(t0:AV)(t1:AV){h:AHeap}{x:ARes×AHeap}(e:z100 (wL n D d) n t0 t1 h=some x):wL n D (d+1) false 73 [t0,t1] h=some x:=
 zd8 (Eq.trans (b:=zf4 (wL n D d) n [t0,t1] h) (by kernel_rfl) ((z28b (wL n D d) n t0 t1 h).trans e))
theorem z192(n D d:Nat)(t0:AV)(t1:AV){h:AHeap}{x:ARes×AHeap}(e:z48 (wL n D d) n t0 t1 h=some x):wL n D (d+1) false 62 [t0,t1] h=some x:=
 zd8 (Eq.trans (b:=z52 (wL n D d) n [t0,t1] h) (by kernel_rfl) ((z176 (wL n D d) n t0 t1 h).trans e))
theorem z1a2(n D d:Nat)(t0:AV)(t1:Bytes){h:AHeap}{x:ARes×AHeap}(e:z41 (wL n D d) n t0 t1 h=some x):wL n D (d+1) false 32 [t0,zc t1] h=some x:=
 zd8 (Eq.trans (b:=z58 (wL n D d) n [t0,zc t1] h) (by kernel_rfl) ((z181 (wL n D d) n t0 t1 h).trans e))
theorem z359(n D d:Nat)(t0:AV){h:AHeap}{x:ARes×AHeap}(e:z131 (wL n D d) n t0 h=some x):wL n D (d+1) false 14 [t0] h=some x:=
 zd8 (Eq.trans (b:=z11d (wL n D d) n [t0] h) (by kernel_rfl) ((z2b0 (wL n D d) n t0 h).trans e))
theorem z1cb(n D d:Nat)(t0:AV){h:AHeap}{x:ARes×AHeap}(e:z97 ((wL n D d) false) n t0 h=some x):wL n D (d+1) false 9 [t0] h=some x:=
 zd8 (Eq.trans (b:=fn1 Dv (z97 ((wL n D d) false) n) [t0] h) (by kernel_rfl) ((z54 Dv _ t0 h).trans e))
theorem z311(n D d:Nat){h:AHeap}{x:ARes×AHeap}(e:zfc ((wL n D d) false) n h=some x):wL n D (d+1) false 7 [] h=some x:=
 zd8 (Eq.trans (b:=fn0 (zfc ((wL n D d) false) n) [] h) (by kernel_rfl) ((fn0_eq _ h).trans e))
theorem z312(n D d:Nat)(t0:AV){h:AHeap}{x:ARes×AHeap}(e:zfd ((wL n D d) false) n t0 h=some x):wL n D (d+1) false 18 [t0] h=some x:=
 zd8 (Eq.trans (b:=fn1 Dv (zfd ((wL n D d) false) n) [t0] h) (by kernel_rfl) ((z54 Dv _ t0 h).trans e))
theorem z237(n D d:Nat)(t0:AV)(t1:AV){h:AHeap}{x:ARes×AHeap}(e:zde ((wL n D d) false) n t0 t1 h=some x):wL n D (d+1) false 15 [t0,t1] h=some x:=
 zd8 (Eq.trans (b:=fn2 Dv Dv (zde ((wL n D d) false) n) [t0,t1] h) (by kernel_rfl) ((z86 Dv Dv _ t0 t1 h).trans e))
theorem z3a7(n D d:Nat)(t0:Int)(t1:Int)(t2:Int)(t3:Int)(t4:Bytes){h:AHeap}{x:ARes×AHeap}(e:z171 ((wL n D d) false) n t0 t1 t2 t3 t4 h=some x):wL n D (d+1) false 12 [.int .i64 t0,.int .i64 t1,.int .i64 t2,.int .i64 t3,zc t4] h=some x:=
 zd8 (Eq.trans (b:=fn5 (Di .i64) (Di .i64) (Di .i64) (Di .i64) Ds (z171 ((wL n D d) false) n) [.int .i64 t0,.int .i64 t1,.int .i64 t2,.int .i64 t3,zc t4] h) (by kernel_rfl) ((fn5_eq (Di .i64) (Di .i64) (Di .i64) (Di .i64) Ds _ t0 t1 t2 t3 t4 h).trans e))
end Go.Proofs.Ytbhblbffdmiepaa
