// Package sealed has what the files of several layers share: a file is a sealed text of a magic, by which its sort is told, and of what is behind that.
package sealed

import (
	"bytes"

	"catchment/api"
	"catchment/crc"
)

// Open is what stands behind the magic in the file b; ErrSum, if b is no sealed text; ErrMagic, if that begins otherwise.
func Open(magic string, b []byte) ([]byte, api.Errno) {
	text, ok := crc.Open(b)
	if !ok {
		return nil, api.ErrSum
	}
	behind, ok := bytes.CutPrefix(text, []byte(magic))
	if !ok {
		return nil, api.ErrMagic
	}
	return behind, api.OK
}
