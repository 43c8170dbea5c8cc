package store

import "seneschal/api"

// Tx is a transaction: of one that is over nothing is kept.
type Tx struct {
	store *Store
	sees  pairs
	began int // how many commits with changes there were then
}

// Begin begins one.
func (s *Store) Begin() *Tx {
	return &Tx{store: s, sees: s.pairs.clone(), began: s.commits}
}

// over: was it committed, or aborted?
func (t *Tx) over() bool { return t.store == nil }

// Get and Scan see what it has put; Put and Delete change it alone.
func (t *Tx) Get(key string) (string, bool) { return t.sees.get(key) }

func (t *Tx) Scan(from string, most int) []api.Pair { return t.sees.scan(from, most) }

func (t *Tx) Put(key, value string) api.Errno {
	switch {
	case t.over():
		return api.ErrStoreDone
	case !isKey(key):
		return api.ErrStoreKey
	case !isValue(value):
		return api.ErrStoreLong
	}
	t.sees.put(copied(api.Pair{Key: key, Value: value}))
	return api.OK
}

func (t *Tx) Delete(key string) api.Errno {
	switch {
	case t.over():
		return api.ErrStoreDone
	case !isKey(key):
		return api.ErrStoreKey
	}
	t.sees.drop(key)
	return api.OK
}

// Commit makes it the store's; Abort lets it go.
func (t *Tx) Commit() api.Errno {
	if t.over() {
		return api.ErrStoreDone
	}
	s, sees, began := t.store, t.sees, t.began
	t.Abort()
	switch {
	case s.Dead():
		return api.ErrDead
	case s.commits != began:
		return api.ErrStoreDone
	}
	return s.become(sees)
}

func (t *Tx) Abort() { *t = Tx{} }
